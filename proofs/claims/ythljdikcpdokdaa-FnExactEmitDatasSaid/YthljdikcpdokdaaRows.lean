/-
  No cell of these rows narrows 'for every input' (looked for: loops, veiled, ifaces, maps, wideKeys, modest, calm, conditions, laid).
  DERIVED. THE GIVEN ROWS OF THIS SEAT. 10 by the template 'for every input the law returns true; each argument reads behind the call as it read before'; 0 by the template 'total and deterministic' (their statements: YthljdikcpdokdaaTotals.lean).
  GIVEN WITH THE SEED: the statements are not yours to turn. If you find one false, say at which input.
  Laid BY PROGRAM, IN A SANDBOX (cutbox-rows.mjs): the forced cells as the released guide's own fill.sh prints them over the translation 471e232152266eb0… (all of the seat's roots in one cut). By AI agents, Wed Nov 11 2026. No macro, syntax, notation, axiom, sorry.
-/
import Derived.Test.YthljdikcpdokdaaChecked
import GoSem.Claim
import GoSem.ClaimJoined
import GoSem.ClaimMapViews
import Derived.JoinedTies
import Derived.KernelRfl
namespace Go.Proofs.Ythljdikcpdokdaa
/- THE CELL 'sum', in the pinned program and in every row, IS THE sha256 OF THE DUMP (.gsa) THAT YthljdikcpdokdaaProg.lean LOADS. Nothing in Lean hashes anything: it is a label: what it is worth is what the hold of that sum in a sandbox is worth. -/
noncomputable def Try.pinned : Pinned := { name := "ythljdikcpdokdaa", sum := "471e232152266eb03c1919f0320e17821c9d68f708cae1ed20f84d0b8bc458c7", checked := Try.checked }
namespace Rows
def none {H : Type} : Left H := { results := [], args := [] }

/-- 'laws.FnSacks': WHATEVER THE INPUT: true; the input reads as it did. -/
def fnSacksSpec : ChangeSpec := { name := "fnSacks", fn := fun _ => fun
  | [d] => { results := [.lit (.bool true)], args := [d] }
  | _ => none }
def fnSacksRow : OpenClaim := { program := "ythljdikcpdokdaa", sum := "471e232152266eb03c1919f0320e17821c9d68f708cae1ed20f84d0b8bc458c7", func := "loop.example/g00670/laws.FnSacks", spec := "fnSacks", unfollowed := true, recurses := true, apart := false }
def FnSacksSaid : Prop := fnSacksRow.holds Try.pinned (OpenSpec.ofChange fnSacksSpec)

/-- ITS FALSE NEIGHBOUR: 'it returns false'. Refute it at one input. -/
def fnSacksWrong : ChangeSpec := { name := "fnSacks", fn := fun _ => fun
  | [d] => { results := [.lit (.bool false)], args := [d] }
  | _ => none }
def FnSacksWrongFalsely : Prop := fnSacksRow.holds Try.pinned (OpenSpec.ofChange fnSacksWrong)

/-- 'laws.FnAcks': WHATEVER THE INPUT: true; the input reads as it did. -/
def fnAcksSpec : ChangeSpec := { name := "fnAcks", fn := fun _ => fun
  | [d] => { results := [.lit (.bool true)], args := [d] }
  | _ => none }
def fnAcksRow : OpenClaim := { program := "ythljdikcpdokdaa", sum := "471e232152266eb03c1919f0320e17821c9d68f708cae1ed20f84d0b8bc458c7", func := "loop.example/g00670/laws.FnAcks", spec := "fnAcks", unfollowed := true, recurses := true, apart := false }
def FnAcksSaid : Prop := fnAcksRow.holds Try.pinned (OpenSpec.ofChange fnAcksSpec)

/-- ITS FALSE NEIGHBOUR: 'it returns false'. Refute it at one input. -/
def fnAcksWrong : ChangeSpec := { name := "fnAcks", fn := fun _ => fun
  | [d] => { results := [.lit (.bool false)], args := [d] }
  | _ => none }
def FnAcksWrongFalsely : Prop := fnAcksRow.holds Try.pinned (OpenSpec.ofChange fnAcksWrong)

/-- 'laws.FnSends': WHATEVER THE INPUT: true; the input reads as it did. -/
def fnSendsSpec : ChangeSpec := { name := "fnSends", fn := fun _ => fun
  | [d] => { results := [.lit (.bool true)], args := [d] }
  | _ => none }
def fnSendsRow : OpenClaim := { program := "ythljdikcpdokdaa", sum := "471e232152266eb03c1919f0320e17821c9d68f708cae1ed20f84d0b8bc458c7", func := "loop.example/g00670/laws.FnSends", spec := "fnSends", unfollowed := true, recurses := true, apart := false }
def FnSendsSaid : Prop := fnSendsRow.holds Try.pinned (OpenSpec.ofChange fnSendsSpec)

/-- ITS FALSE NEIGHBOUR: 'it returns false'. Refute it at one input. -/
def fnSendsWrong : ChangeSpec := { name := "fnSends", fn := fun _ => fun
  | [d] => { results := [.lit (.bool false)], args := [d] }
  | _ => none }
def FnSendsWrongFalsely : Prop := fnSendsRow.holds Try.pinned (OpenSpec.ofChange fnSendsWrong)

/-- 'laws.FnExactSendFault': WHATEVER THE INPUT: true; the input reads as it did. -/
def fnExactSendFaultSpec : ChangeSpec := { name := "fnExactSendFault", fn := fun _ => fun
  | [d] => { results := [.lit (.bool true)], args := [d] }
  | _ => none }
def fnExactSendFaultRow : OpenClaim := { program := "ythljdikcpdokdaa", sum := "471e232152266eb03c1919f0320e17821c9d68f708cae1ed20f84d0b8bc458c7", func := "loop.example/g00670/laws.FnExactSendFault", spec := "fnExactSendFault", apart := false }
def FnExactSendFaultSaid : Prop := fnExactSendFaultRow.holds Try.pinned (OpenSpec.ofChange fnExactSendFaultSpec)

/-- ITS FALSE NEIGHBOUR: 'it returns false'. Refute it at one input. -/
def fnExactSendFaultWrong : ChangeSpec := { name := "fnExactSendFault", fn := fun _ => fun
  | [d] => { results := [.lit (.bool false)], args := [d] }
  | _ => none }
def FnExactSendFaultWrongFalsely : Prop := fnExactSendFaultRow.holds Try.pinned (OpenSpec.ofChange fnExactSendFaultWrong)

/-- 'laws.FnExactNewSend': WHATEVER THE INPUT: true; the input reads as it did. -/
def fnExactNewSendSpec : ChangeSpec := { name := "fnExactNewSend", fn := fun _ => fun
  | [d] => { results := [.lit (.bool true)], args := [d] }
  | _ => none }
def fnExactNewSendRow : OpenClaim := { program := "ythljdikcpdokdaa", sum := "471e232152266eb03c1919f0320e17821c9d68f708cae1ed20f84d0b8bc458c7", func := "loop.example/g00670/laws.FnExactNewSend", spec := "fnExactNewSend", apart := false }
def FnExactNewSendSaid : Prop := fnExactNewSendRow.holds Try.pinned (OpenSpec.ofChange fnExactNewSendSpec)

/-- ITS FALSE NEIGHBOUR: 'it returns false'. Refute it at one input. -/
def fnExactNewSendWrong : ChangeSpec := { name := "fnExactNewSend", fn := fun _ => fun
  | [d] => { results := [.lit (.bool false)], args := [d] }
  | _ => none }
def FnExactNewSendWrongFalsely : Prop := fnExactNewSendRow.holds Try.pinned (OpenSpec.ofChange fnExactNewSendWrong)

/-- 'laws.FnExactPushMessage': WHATEVER THE INPUT: true; the input reads as it did. -/
def fnExactPushMessageSpec : ChangeSpec := { name := "fnExactPushMessage", fn := fun _ => fun
  | [d1, d2, d3] => { results := [.lit (.bool true)], args := [d1, d2, d3] }
  | _ => none }
def fnExactPushMessageRow : OpenClaim := { program := "ythljdikcpdokdaa", sum := "471e232152266eb03c1919f0320e17821c9d68f708cae1ed20f84d0b8bc458c7", func := "loop.example/g00670/laws.FnExactPushMessage", spec := "fnExactPushMessage", unfollowed := true, recurses := true, apart := false }
def FnExactPushMessageSaid : Prop := fnExactPushMessageRow.holds Try.pinned (OpenSpec.ofChange fnExactPushMessageSpec)

/-- ITS FALSE NEIGHBOUR: 'it returns false'. Refute it at one input. -/
def fnExactPushMessageWrong : ChangeSpec := { name := "fnExactPushMessage", fn := fun _ => fun
  | [d1, d2, d3] => { results := [.lit (.bool false)], args := [d1, d2, d3] }
  | _ => none }
def FnExactPushMessageWrongFalsely : Prop := fnExactPushMessageRow.holds Try.pinned (OpenSpec.ofChange fnExactPushMessageWrong)

/-- 'laws.FnExactEmitDatas': WHATEVER THE INPUT: true; the input reads as it did. -/
def fnExactEmitDatasSpec : ChangeSpec := { name := "fnExactEmitDatas", fn := fun _ => fun
  | [d1, d2, d3, d4] => { results := [.lit (.bool true)], args := [d1, d2, d3, d4] }
  | _ => none }
def fnExactEmitDatasRow : OpenClaim := { program := "ythljdikcpdokdaa", sum := "471e232152266eb03c1919f0320e17821c9d68f708cae1ed20f84d0b8bc458c7", func := "loop.example/g00670/laws.FnExactEmitDatas", spec := "fnExactEmitDatas", unfollowed := true, recurses := true, apart := false }
def FnExactEmitDatasSaid : Prop := fnExactEmitDatasRow.holds Try.pinned (OpenSpec.ofChange fnExactEmitDatasSpec)

/-- ITS FALSE NEIGHBOUR: 'it returns false'. Refute it at one input. -/
def fnExactEmitDatasWrong : ChangeSpec := { name := "fnExactEmitDatas", fn := fun _ => fun
  | [d1, d2, d3, d4] => { results := [.lit (.bool false)], args := [d1, d2, d3, d4] }
  | _ => none }
def FnExactEmitDatasWrongFalsely : Prop := fnExactEmitDatasRow.holds Try.pinned (OpenSpec.ofChange fnExactEmitDatasWrong)

/-- 'laws.FnExactTakeSack': WHATEVER THE INPUT: true; the input reads as it did. -/
def fnExactTakeSackSpec : ChangeSpec := { name := "fnExactTakeSack", fn := fun _ => fun
  | [d1, d2] => { results := [.lit (.bool true)], args := [d1, d2] }
  | _ => none }
def fnExactTakeSackRow : OpenClaim := { program := "ythljdikcpdokdaa", sum := "471e232152266eb03c1919f0320e17821c9d68f708cae1ed20f84d0b8bc458c7", func := "loop.example/g00670/laws.FnExactTakeSack", spec := "fnExactTakeSack", unfollowed := true, recurses := true, apart := false }
def FnExactTakeSackSaid : Prop := fnExactTakeSackRow.holds Try.pinned (OpenSpec.ofChange fnExactTakeSackSpec)

/-- ITS FALSE NEIGHBOUR: 'it returns false'. Refute it at one input. -/
def fnExactTakeSackWrong : ChangeSpec := { name := "fnExactTakeSack", fn := fun _ => fun
  | [d1, d2] => { results := [.lit (.bool false)], args := [d1, d2] }
  | _ => none }
def FnExactTakeSackWrongFalsely : Prop := fnExactTakeSackRow.holds Try.pinned (OpenSpec.ofChange fnExactTakeSackWrong)

/-- 'laws.FnExactLeftIn': WHATEVER THE INPUT: true; the input reads as it did. -/
def fnExactLeftInSpec : ChangeSpec := { name := "fnExactLeftIn", fn := fun _ => fun
  | [d] => { results := [.lit (.bool true)], args := [d] }
  | _ => none }
def fnExactLeftInRow : OpenClaim := { program := "ythljdikcpdokdaa", sum := "471e232152266eb03c1919f0320e17821c9d68f708cae1ed20f84d0b8bc458c7", func := "loop.example/g00670/laws.FnExactLeftIn", spec := "fnExactLeftIn", apart := false }
def FnExactLeftInSaid : Prop := fnExactLeftInRow.holds Try.pinned (OpenSpec.ofChange fnExactLeftInSpec)

/-- ITS FALSE NEIGHBOUR: 'it returns false'. Refute it at one input. -/
def fnExactLeftInWrong : ChangeSpec := { name := "fnExactLeftIn", fn := fun _ => fun
  | [d] => { results := [.lit (.bool false)], args := [d] }
  | _ => none }
def FnExactLeftInWrongFalsely : Prop := fnExactLeftInRow.holds Try.pinned (OpenSpec.ofChange fnExactLeftInWrong)

/-- 'laws.FnExactSameSends': WHATEVER THE INPUT: true; the input reads as it did. -/
def fnExactSameSendsSpec : ChangeSpec := { name := "fnExactSameSends", fn := fun _ => fun
  | [d1, d2] => { results := [.lit (.bool true)], args := [d1, d2] }
  | _ => none }
def fnExactSameSendsRow : OpenClaim := { program := "ythljdikcpdokdaa", sum := "471e232152266eb03c1919f0320e17821c9d68f708cae1ed20f84d0b8bc458c7", func := "loop.example/g00670/laws.FnExactSameSends", spec := "fnExactSameSends", unfollowed := true, recurses := true, apart := false }
def FnExactSameSendsSaid : Prop := fnExactSameSendsRow.holds Try.pinned (OpenSpec.ofChange fnExactSameSendsSpec)

/-- ITS FALSE NEIGHBOUR: 'it returns false'. Refute it at one input. -/
def fnExactSameSendsWrong : ChangeSpec := { name := "fnExactSameSends", fn := fun _ => fun
  | [d1, d2] => { results := [.lit (.bool false)], args := [d1, d2] }
  | _ => none }
def FnExactSameSendsWrongFalsely : Prop := fnExactSameSendsRow.holds Try.pinned (OpenSpec.ofChange fnExactSameSendsWrong)

/- THE SECOND FORM. 'bulk': how many values and letters a reading holds, each counted each time it is reached (what is shared counts as often as it is met; a slice's spare places count too). A statement '..UptoSaid' is the law's where the arguments, and the package variables that the reading takes, are together of bulk at most 1048576: NARROWER than '..Said'. Prove '..Said' where nothing that the law and all that it calls make is longer than what came in: it says more and counts as full. Else prove '..UptoSaid'. A law counts once. -/
mutual
def uptoBulk {H : Type} : DataW H → Nat
  | .lit (.string bytes) => bytes.length + 1
  | .lit _ => 1
  | .nil => 1
  | .ptr d => uptoBulk d + 1
  | .slice elems spare => uptoBulkAll elems + uptoBulkAll spare + 1
  | .agg parts => uptoBulkAll parts + 1
  | .iface _ d => uptoBulk d + 1
  | .map entries => uptoBulkEntries entries + 1
  | .held _ => 1
def uptoBulkAll {H : Type} : List (DataW H) → Nat
  | [] => 0
  | d :: r => uptoBulk d + uptoBulkAll r
def uptoBulkEntries {H : Type} : List (Lit × DataW H) → Nat
  | [] => 0
  | x :: r => uptoBulkEntry x + uptoBulkEntries r
def uptoBulkEntry {H : Type} : Lit × DataW H → Nat
  | (.string bytes, d) => bytes.length + uptoBulk d + 1
  | (_, d) => uptoBulk d + 1
 end
def uptoSmall : (H : Type) → List (DataW H) → Bool := fun _ ds => decide (uptoBulkAll ds ≤ 1048576)
def OpenSpec.upto (s : _root_.Go.ChangeSpec) : _root_.Go.OpenSpec := { _root_.Go.OpenSpec.ofChange s with cond := some uptoSmall }

/-- 'laws.FnSacks', WHERE WHAT IT READS IS OF BULK AT MOST 1048576: true; the input reads as it did. -/
def fnSacksUptoRow : OpenClaim := { program := "ythljdikcpdokdaa", sum := "471e232152266eb03c1919f0320e17821c9d68f708cae1ed20f84d0b8bc458c7", func := "loop.example/g00670/laws.FnSacks", spec := "fnSacks", unfollowed := true, recurses := true, apart := false, narrowed := true }
def FnSacksUptoSaid : Prop := fnSacksUptoRow.holds Try.pinned (OpenSpec.upto fnSacksSpec)

/-- 'laws.FnAcks', WHERE WHAT IT READS IS OF BULK AT MOST 1048576: true; the input reads as it did. -/
def fnAcksUptoRow : OpenClaim := { program := "ythljdikcpdokdaa", sum := "471e232152266eb03c1919f0320e17821c9d68f708cae1ed20f84d0b8bc458c7", func := "loop.example/g00670/laws.FnAcks", spec := "fnAcks", unfollowed := true, recurses := true, apart := false, narrowed := true }
def FnAcksUptoSaid : Prop := fnAcksUptoRow.holds Try.pinned (OpenSpec.upto fnAcksSpec)

/-- 'laws.FnSends', WHERE WHAT IT READS IS OF BULK AT MOST 1048576: true; the input reads as it did. -/
def fnSendsUptoRow : OpenClaim := { program := "ythljdikcpdokdaa", sum := "471e232152266eb03c1919f0320e17821c9d68f708cae1ed20f84d0b8bc458c7", func := "loop.example/g00670/laws.FnSends", spec := "fnSends", unfollowed := true, recurses := true, apart := false, narrowed := true }
def FnSendsUptoSaid : Prop := fnSendsUptoRow.holds Try.pinned (OpenSpec.upto fnSendsSpec)

/-- 'laws.FnExactSendFault', WHERE WHAT IT READS IS OF BULK AT MOST 1048576: true; the input reads as it did. -/
def fnExactSendFaultUptoRow : OpenClaim := { program := "ythljdikcpdokdaa", sum := "471e232152266eb03c1919f0320e17821c9d68f708cae1ed20f84d0b8bc458c7", func := "loop.example/g00670/laws.FnExactSendFault", spec := "fnExactSendFault", apart := false, narrowed := true }
def FnExactSendFaultUptoSaid : Prop := fnExactSendFaultUptoRow.holds Try.pinned (OpenSpec.upto fnExactSendFaultSpec)

/-- 'laws.FnExactNewSend', WHERE WHAT IT READS IS OF BULK AT MOST 1048576: true; the input reads as it did. -/
def fnExactNewSendUptoRow : OpenClaim := { program := "ythljdikcpdokdaa", sum := "471e232152266eb03c1919f0320e17821c9d68f708cae1ed20f84d0b8bc458c7", func := "loop.example/g00670/laws.FnExactNewSend", spec := "fnExactNewSend", apart := false, narrowed := true }
def FnExactNewSendUptoSaid : Prop := fnExactNewSendUptoRow.holds Try.pinned (OpenSpec.upto fnExactNewSendSpec)

/-- 'laws.FnExactPushMessage', WHERE WHAT IT READS IS OF BULK AT MOST 1048576: true; the input reads as it did. -/
def fnExactPushMessageUptoRow : OpenClaim := { program := "ythljdikcpdokdaa", sum := "471e232152266eb03c1919f0320e17821c9d68f708cae1ed20f84d0b8bc458c7", func := "loop.example/g00670/laws.FnExactPushMessage", spec := "fnExactPushMessage", unfollowed := true, recurses := true, apart := false, narrowed := true }
def FnExactPushMessageUptoSaid : Prop := fnExactPushMessageUptoRow.holds Try.pinned (OpenSpec.upto fnExactPushMessageSpec)

/-- 'laws.FnExactEmitDatas', WHERE WHAT IT READS IS OF BULK AT MOST 1048576: true; the input reads as it did. -/
def fnExactEmitDatasUptoRow : OpenClaim := { program := "ythljdikcpdokdaa", sum := "471e232152266eb03c1919f0320e17821c9d68f708cae1ed20f84d0b8bc458c7", func := "loop.example/g00670/laws.FnExactEmitDatas", spec := "fnExactEmitDatas", unfollowed := true, recurses := true, apart := false, narrowed := true }
def FnExactEmitDatasUptoSaid : Prop := fnExactEmitDatasUptoRow.holds Try.pinned (OpenSpec.upto fnExactEmitDatasSpec)

/-- 'laws.FnExactTakeSack', WHERE WHAT IT READS IS OF BULK AT MOST 1048576: true; the input reads as it did. -/
def fnExactTakeSackUptoRow : OpenClaim := { program := "ythljdikcpdokdaa", sum := "471e232152266eb03c1919f0320e17821c9d68f708cae1ed20f84d0b8bc458c7", func := "loop.example/g00670/laws.FnExactTakeSack", spec := "fnExactTakeSack", unfollowed := true, recurses := true, apart := false, narrowed := true }
def FnExactTakeSackUptoSaid : Prop := fnExactTakeSackUptoRow.holds Try.pinned (OpenSpec.upto fnExactTakeSackSpec)

/-- 'laws.FnExactLeftIn', WHERE WHAT IT READS IS OF BULK AT MOST 1048576: true; the input reads as it did. -/
def fnExactLeftInUptoRow : OpenClaim := { program := "ythljdikcpdokdaa", sum := "471e232152266eb03c1919f0320e17821c9d68f708cae1ed20f84d0b8bc458c7", func := "loop.example/g00670/laws.FnExactLeftIn", spec := "fnExactLeftIn", apart := false, narrowed := true }
def FnExactLeftInUptoSaid : Prop := fnExactLeftInUptoRow.holds Try.pinned (OpenSpec.upto fnExactLeftInSpec)

/-- 'laws.FnExactSameSends', WHERE WHAT IT READS IS OF BULK AT MOST 1048576: true; the input reads as it did. -/
def fnExactSameSendsUptoRow : OpenClaim := { program := "ythljdikcpdokdaa", sum := "471e232152266eb03c1919f0320e17821c9d68f708cae1ed20f84d0b8bc458c7", func := "loop.example/g00670/laws.FnExactSameSends", spec := "fnExactSameSends", unfollowed := true, recurses := true, apart := false, narrowed := true }
def FnExactSameSendsUptoSaid : Prop := fnExactSameSendsUptoRow.holds Try.pinned (OpenSpec.upto fnExactSameSendsSpec)

end Rows
end Go.Proofs.Ythljdikcpdokdaa
