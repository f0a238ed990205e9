/- At every list of pieces the program's JoinPieces answers as its model does, in memory of its own, it leaves its argument as it was, and the law FnExactJoinPieces answers true. -/
import Derived.Test.YtbfbfimmhpijfaaRows
import Derived.Test.YtbfbfimmhpijfaaS8JS
import Derived.Test.YtbfbfimmhpijfaaS8JI
import Derived.Test.YtbfbfimmhpijfaaUniR
import Derived.Test.YtbfbfimmhpijfaaLwBytes
import Derived.WalkSpells
import Derived.WalkLawsBesides
import Derived.WalkKit
import Derived.ProofKit
import Derived.OpenShut
import Derived.ShutString
import Derived.ChangeOld
import Derived.Below
namespace Go.Proofs.Ytbfbfimmhpijfaa.fnExactJoinPieces
open Go.ChangeShapes Go.WideShapes Go.ChangeAt Go.RowKit
open Go.ChangeMaps (open_string shut_string)
set_option linter.unusedVariables false

theorem own : ownKnob Try.prog.godebug = none := by kernel_rfl
theorem laidOut : laidOutB Try.prog = true := by kernel_rfl

/-- WHAT THE WALK IS TOLD OF A SLICE OF INTEGERS THAT CAME IN: it is nil; or it leads to a row of 'cap' cells, the numbers 'zs' (the first 'len' are its elements, the rest its spare room), each fitting its kind. -/
def IsRow (k : IntKind) (w : World) (a : Option Addr) (len cap : Nat) (zs : List Int) : Prop :=
  (a = none ∧ len = 0 ∧ cap = 0 ∧ zs = []) ∨
  ∃ x, a = some x ∧ len ≤ cap ∧ cap ≤ maxLen ∧ zs.length = cap ∧ (∀ i, i < zs.length → w.cell? (x.add i) = some (.int k (zs.getD i 0))) ∧ ∀ n ∈ zs, (Lit.int k n).wf = true


set_option maxRecDepth 100000 in
set_option maxHeartbeats 4000000 in
theorem walk (r0 : List DataM) (A0 : Option Addr) (c0 : Nat) (w : World) (w0 : Rd w (st_Data r0) (.slice A0 r0.length c0) ∧ WfV (st_Data r0)) :
    Calls Try.prog 6 #[.slice A0 r0.length c0] w fun e w' => e = .returned (.bool true) ∧ Below w.heap.size w w' := by
  obtain ⟨hr0, hwf0⟩ := w0
  have K : Below w.heap.size w w := Below.refl _ _
  have HRD0 := hidH (fun (u : World) (h : Below w.heap.size w u) => Rd.below h _ hr0)
  have HWF0 := hidH hwf0
  clear hr0 hwf0
  go_enter Try.func6, Try.ntmps6
  go_wp2_with fail
  refine (szS_Data r0 _ 1048576 _ (HRD0.out _ K) (by omega) (by omega)).mono ?_
  rintro e w11 ⟨z0, rfl, hz0, hb⟩
  have sz := hb.size
  try simp only [World.size_alloc] at sz
  replace K := btr K hb
  clear hb
  have HZ0 := hidH hz0
  clear hz0
  by_cases h0 : z0 < 0
  · go_wp2
    go_ret
    exact ⟨rfl, K⟩
  · have ht0 : tot (st_Data r0) ≤ 1048576 := by have := HZ0.out.2.2 (by omega); omega
    have hzp0 : 0 ≤ z0 := by omega
    have hzl0 : z0 ≤ 1048576 := by have := HZ0.out.2.1; omega
    clear h0
    have hlen := jnR_len r0 HWF0.out ht0
    have hcn0 : cc (st_Data r0) ≤ 1000000000 := by
      have h1 := ccS_Data r0
      have h2 : r0.length + tot.totL (r0.flatMap DataM.vs) ≤ 1048576 := ht0
      show cc.ccL (r0.flatMap DataM.vs) ≤ _
      omega
    have TO0 := hidH (fun (u : World) (h : Below w.heap.size w u) => toS_Data r0 _ u (HRD0.out u h) ht0)
    have SP := hidH (fun (u : World) (v0 : Value) (h0 : Rd u (st_Data r0) v0) => jn_spec r0 v0 u h0 HWF0.out ht0)
    have IM := hidH (fun (u : World) (v0 : Value) (h0 : Rd u (st_Data r0) v0) => jn_impl r0 v0 u h0 HWF0.out ht0)
    obtain ⟨z, hz⟩ : ∃ z, jnR r0 = z := ⟨_, rfl⟩
    rw [hz] at SP IM hlen
    clear hz ht0
    clear HZ0
    go_wp2_with fail
    refine (TO0.out _ K).mono ?_
    rintro e w12 ⟨vs, rfl, Qa0, hb⟩
    obtain ⟨Ea0, ea0, rfl⟩ := st_Data_sh Qa0.rd
    try simp only [World.size_alloc] at Qa0
    have sz := hb.size
    try simp only [World.size_alloc] at sz
    replace K := btr K hb
    clear hb
    go_wp2_with fail
    refine (SP.out _ _ Qa0.rd).mono ?_
    rintro e w13 ⟨vs, rfl, P1, hb⟩
    obtain ⟨R1_3, r1_3, rfl⟩ := shape_MessageResult P1.rd
    try simp only [World.size_alloc] at P1
    have sz := hb.size
    try simp only [World.size_alloc] at sz
    replace Qa0 := Qa0.below hb
    replace K := btr K hb
    clear hb
    have X1 := Blk.new w13 34 #[.int .i64 z.Code, .int .i64 z.Message_Stream, .bool z.Message_Unordered, .slice R1_3 z.Message_Bytes.length r1_3]
    replace Qa0 := Qa0.below (bal (Below.refl _ _) (.cells #[.int .i64 z.Code, .int .i64 z.Message_Stream, .bool z.Message_Unordered, .slice R1_3 z.Message_Bytes.length r1_3] 34))
    replace P1 := P1.below (bal (Below.refl _ _) (.cells #[.int .i64 z.Code, .int .i64 z.Message_Stream, .bool z.Message_Unordered, .slice R1_3 z.Message_Bytes.length r1_3] 34))
    replace K := bal K (.cells #[.int .i64 z.Code, .int .i64 z.Message_Stream, .bool z.Message_Unordered, .slice R1_3 z.Message_Bytes.length r1_3] 34)
    clear Qa0
    go_wp2_with fail
    refine (TO0.out _ K).mono ?_
    rintro e w14 ⟨vs, rfl, Qx0, hb⟩
    obtain ⟨Ex0, ex0, rfl⟩ := st_Data_sh Qx0.rd
    try simp only [World.size_alloc] at Qx0
    have sz := hb.size
    try simp only [World.size_alloc] at sz
    replace P1 := P1.below hb
    replace X1 := X1.below hb
    replace K := btr K hb
    clear hb
    go_wp2_with fail
    refine (IM.out _ _ Qx0.rd).mono ?_
    rintro e w15 ⟨vs, rfl, P2, hb⟩
    obtain ⟨R2_3, r2_3, rfl⟩ := shape_MessageResult P2.rd
    try simp only [World.size_alloc] at P2
    have sz := hb.size
    try simp only [World.size_alloc] at sz
    replace P1 := P1.below hb
    replace X1 := X1.below hb
    replace Qx0 := Qx0.below hb
    replace K := btr K hb
    clear hb
    have X2 := Blk.new w15 34 #[.int .i64 z.Code, .int .i64 z.Message_Stream, .bool z.Message_Unordered, .slice R2_3 z.Message_Bytes.length r2_3]
    replace P1 := P1.below (bal (Below.refl _ _) (.cells #[.int .i64 z.Code, .int .i64 z.Message_Stream, .bool z.Message_Unordered, .slice R2_3 z.Message_Bytes.length r2_3] 34))
    replace X1 := X1.alloc (.cells #[.int .i64 z.Code, .int .i64 z.Message_Stream, .bool z.Message_Unordered, .slice R2_3 z.Message_Bytes.length r2_3] 34)
    replace Qx0 := Qx0.below (bal (Below.refl _ _) (.cells #[.int .i64 z.Code, .int .i64 z.Message_Stream, .bool z.Message_Unordered, .slice R2_3 z.Message_Bytes.length r2_3] 34))
    replace P2 := P2.below (bal (Below.refl _ _) (.cells #[.int .i64 z.Code, .int .i64 z.Message_Stream, .bool z.Message_Unordered, .slice R2_3 z.Message_Bytes.length r2_3] 34))
    replace K := bal K (.cells #[.int .i64 z.Code, .int .i64 z.Message_Stream, .bool z.Message_Unordered, .slice R2_3 z.Message_Bytes.length r2_3] 34)
    have p0 := X2.cell 0
    have p1 := X2.cell 1
    have p2 := X2.cell 2
    have p3 := X2.cell 3
    simp only [List.getElem?_toArray, List.getElem?_cons_succ, List.getElem?_cons_zero] at p0 p1 p2 p3
    have gp := X2.lt
    have q0 := X1.cell 0
    have q1 := X1.cell 1
    have q2 := X1.cell 2
    have q3 := X1.cell 3
    simp only [List.getElem?_toArray, List.getElem?_cons_succ, List.getElem?_cons_zero] at q0 q1 q2 q3
    have gq := X1.lt
    go_wp2_with fail
    clear p0 p1 p2 p3 gp
    clear q0 q1 q2 q3 gq
    refine (eqA_MessageResult z P2.rd P1.rd).mono ?_
    rintro e w16 ⟨rfl, hb⟩
    have sz := hb.size
    try simp only [World.size_alloc] at sz
    replace P1 := P1.below hb
    replace X1 := X1.below hb
    replace Qx0 := Qx0.below hb
    replace P2 := P2.below hb
    replace X2 := X2.below hb
    replace K := btr K hb
    clear hb
    go_wp2_with fail
    refine (TO0.out _ K).mono ?_
    rintro e w17 ⟨vs, rfl, Qe0, hb⟩
    obtain ⟨Ee0, ee0, rfl⟩ := st_Data_sh Qe0.rd
    try simp only [World.size_alloc] at Qe0
    have sz := hb.size
    try simp only [World.size_alloc] at sz
    replace P1 := P1.below hb
    replace X1 := X1.below hb
    replace Qx0 := Qx0.below hb
    replace P2 := P2.below hb
    replace X2 := X2.below hb
    replace K := btr K hb
    clear hb
    go_wp2_with fail
    refine (eqS_Data r0 _ _ _ Qx0.rd Qe0.rd).mono ?_
    rintro e w18 ⟨rfl, hb⟩
    have sz := hb.size
    try simp only [World.size_alloc] at sz
    replace P1 := P1.below hb
    replace X1 := X1.below hb
    replace Qx0 := Qx0.below hb
    replace P2 := P2.below hb
    replace X2 := X2.below hb
    replace Qe0 := Qe0.below hb
    replace K := btr K hb
    clear hb
    clear Qe0
    go_wp2_with fail
    refine (markS_Data r0 (Wn _ _) _ (1) _ Qx0.2 (by omega)).mono ?_
    rintro e w19 ⟨rfl, hc, _⟩
    have W := hc.win (fun _ _ h => h)
    clear hc
    have sz := W.size
    replace P1 := P1.win W (.inl (by omega))
    replace X1 := Blk.win2 X1 W (.inl (by omega))
    replace P2 := P2.win W (.inr (by omega))
    replace X2 := Blk.win2 X2 W (.inr (by omega))
    replace K := K.trans ((W.below (by omega)).mono (by omega))
    clear W
    clear Qx0
    have kpos : ¬ (((1 + cc (st_Data r0) : Nat) : Int) < 0) := by omega
    have p0 := X2.cell 0
    have p1 := X2.cell 1
    have p2 := X2.cell 2
    have p3 := X2.cell 3
    simp only [List.getElem?_toArray, List.getElem?_cons_succ, List.getElem?_cons_zero] at p0 p1 p2 p3
    have gp := X2.lt
    have q0 := X1.cell 0
    have q1 := X1.cell 1
    have q2 := X1.cell 2
    have q3 := X1.cell 3
    simp only [List.getElem?_toArray, List.getElem?_cons_succ, List.getElem?_cons_zero] at q0 q1 q2 q3
    have gq := X1.lt
    go_wp2_with fail
    clear p0 p1 p2 p3 gp
    clear q0 q1 q2 q3 gq
    refine (eqA_MessageResult z P2.rd P1.rd).mono ?_
    rintro e w20 ⟨rfl, hb⟩
    have sz := hb.size
    try simp only [World.size_alloc] at sz
    replace P1 := P1.below hb
    replace X1 := X1.below hb
    replace P2 := P2.below hb
    replace X2 := X2.below hb
    replace K := btr K hb
    clear hb
    clear kpos
    have p0 := X2.cell 0
    have p1 := X2.cell 1
    have p2 := X2.cell 2
    have p3 := X2.cell 3
    simp only [List.getElem?_toArray, List.getElem?_cons_succ, List.getElem?_cons_zero] at p0 p1 p2 p3
    have gp := X2.lt
    go_wp2_with fail
    clear p0 p1 p2 p3 gp
    refine (markA_MessageResult z (S := Wn _ _) (k := 1) (Wn.sub (Nat.zero_le _) P2.1) P2.2 (by omega)).mono ?_
    rintro e w21 ⟨rfl, hc, ho⟩
    have W := hc.win (fun _ _ h => h)
    have M2 := And.intro (Nat.le_trans P2.1 hc.size) ho
    replace M2 : OwN _ _ _ _ _ := M2
    clear hc ho
    have sz := W.size
    replace P1 := P1.win W (.inl (by omega))
    replace X1 := Blk.win2 X1 W (.inl (by omega))
    replace X2 := Blk.win2 X2 W (.inr (by omega))
    replace K := K.trans ((W.below (by omega)).mono (by omega))
    clear W
    clear P2
    have p0 := X2.cell 0
    have p1 := X2.cell 1
    have p2 := X2.cell 2
    have p3 := X2.cell 3
    simp only [List.getElem?_toArray, List.getElem?_cons_succ, List.getElem?_cons_zero] at p0 p1 p2 p3
    have gp := X2.lt
    go_wp2_with fail
    clear p0 p1 p2 p3 gp
    refine (heldA_MessageResult z (k := 1) M2.rd (by omega)).mono ?_
    rintro e w22 ⟨rfl, hb⟩
    have sz := hb.size
    try simp only [World.size_alloc] at sz
    replace P1 := P1.below hb
    replace X1 := X1.below hb
    replace X2 := X2.below hb
    replace M2 := M2.below hb
    replace K := btr K hb
    clear hb
    have kpos : ¬ (((1 + vcA z.vs : Nat) : Int) < 0) := by omega
    go_wp2_with fail
    refine (TO0.out _ K).mono ?_
    rintro e w23 ⟨vs, rfl, Qh0, hb⟩
    obtain ⟨Eh0, eh0, rfl⟩ := st_Data_sh Qh0.rd
    try simp only [World.size_alloc] at Qh0
    have sz := hb.size
    try simp only [World.size_alloc] at sz
    replace P1 := P1.below hb
    replace X1 := X1.below hb
    replace X2 := X2.below hb
    replace M2 := M2.below hb
    replace K := btr K hb
    clear hb
    go_wp2_with fail
    refine (IM.out _ _ Qh0.rd).mono ?_
    rintro e w24 ⟨vs, rfl, P3, hb⟩
    obtain ⟨R3_3, r3_3, rfl⟩ := shape_MessageResult P3.rd
    try simp only [World.size_alloc] at P3
    have sz := hb.size
    try simp only [World.size_alloc] at sz
    replace P1 := P1.below hb
    replace X1 := X1.below hb
    replace X2 := X2.below hb
    replace M2 := M2.below hb
    replace Qh0 := Qh0.below hb
    replace K := btr K hb
    clear hb
    have X3 := Blk.new w24 34 #[.int .i64 z.Code, .int .i64 z.Message_Stream, .bool z.Message_Unordered, .slice R3_3 z.Message_Bytes.length r3_3]
    replace P1 := P1.below (bal (Below.refl _ _) (.cells #[.int .i64 z.Code, .int .i64 z.Message_Stream, .bool z.Message_Unordered, .slice R3_3 z.Message_Bytes.length r3_3] 34))
    replace X1 := X1.alloc (.cells #[.int .i64 z.Code, .int .i64 z.Message_Stream, .bool z.Message_Unordered, .slice R3_3 z.Message_Bytes.length r3_3] 34)
    replace X2 := X2.alloc (.cells #[.int .i64 z.Code, .int .i64 z.Message_Stream, .bool z.Message_Unordered, .slice R3_3 z.Message_Bytes.length r3_3] 34)
    replace M2 := M2.below (bal (Below.refl _ _) (.cells #[.int .i64 z.Code, .int .i64 z.Message_Stream, .bool z.Message_Unordered, .slice R3_3 z.Message_Bytes.length r3_3] 34))
    replace Qh0 := Qh0.below (bal (Below.refl _ _) (.cells #[.int .i64 z.Code, .int .i64 z.Message_Stream, .bool z.Message_Unordered, .slice R3_3 z.Message_Bytes.length r3_3] 34))
    replace P3 := P3.below (bal (Below.refl _ _) (.cells #[.int .i64 z.Code, .int .i64 z.Message_Stream, .bool z.Message_Unordered, .slice R3_3 z.Message_Bytes.length r3_3] 34))
    replace K := bal K (.cells #[.int .i64 z.Code, .int .i64 z.Message_Stream, .bool z.Message_Unordered, .slice R3_3 z.Message_Bytes.length r3_3] 34)
    clear Qh0
    have p0 := X3.cell 0
    have p1 := X3.cell 1
    have p2 := X3.cell 2
    have p3 := X3.cell 3
    simp only [List.getElem?_toArray, List.getElem?_cons_succ, List.getElem?_cons_zero] at p0 p1 p2 p3
    have gp := X3.lt
    have q0 := X1.cell 0
    have q1 := X1.cell 1
    have q2 := X1.cell 2
    have q3 := X1.cell 3
    simp only [List.getElem?_toArray, List.getElem?_cons_succ, List.getElem?_cons_zero] at q0 q1 q2 q3
    have gq := X1.lt
    go_wp2_with fail
    clear p0 p1 p2 p3 gp
    clear q0 q1 q2 q3 gq
    refine (eqA_MessageResult z P3.rd P1.rd).mono ?_
    rintro e w25 ⟨rfl, hb⟩
    have sz := hb.size
    try simp only [World.size_alloc] at sz
    replace P1 := P1.below hb
    replace X1 := X1.below hb
    replace X2 := X2.below hb
    replace M2 := M2.below hb
    replace P3 := P3.below hb
    replace X3 := X3.below hb
    replace K := btr K hb
    clear hb
    clear P3
    clear X3
    clear P1
    clear X1
    clear kpos
    have p0 := X2.cell 0
    have p1 := X2.cell 1
    have p2 := X2.cell 2
    have p3 := X2.cell 3
    simp only [List.getElem?_toArray, List.getElem?_cons_succ, List.getElem?_cons_zero] at p0 p1 p2 p3
    have gp := X2.lt
    go_wp2_with fail
    clear p0 p1 p2 p3 gp
    refine (heldA_MessageResult z (k := 1) M2.rd (by omega)).mono ?_
    rintro e w26 ⟨rfl, hb⟩
    have sz := hb.size
    try simp only [World.size_alloc] at sz
    replace X2 := X2.below hb
    replace M2 := M2.below hb
    replace K := btr K hb
    clear hb
    have kpos : ¬ (((1 + vcA z.vs : Nat) : Int) < 0) := by omega
    go_wp2
    go_ret
    exact ⟨rfl, K⟩

/-- An input that the row's conditions hold of: the witness laid as theorems of their own (inside the refine Lean does not come to an end). -/
def wit : Input := ⟨#[], #[.slice none 0 0], []⟩
theorem wit1 (os : Os) : (World.plainHolding Try.checked.prog os wit).variablesB Try.checked.prog = true := by kernel_rfl
theorem wit2 (os : Os) : ((World.plainHolding Try.checked.prog os wit).heap.toList.drop Try.checked.prog.globals.size).take ((begin Try.checked.prog (fun _ _ => 0) default).world.heap.size - Try.checked.prog.globals.size) =
    (begin Try.checked.prog (fun _ _ => 0) default).world.heap.toList.drop Try.checked.prog.globals.size := by kernel_rfl
theorem wit3 (os : Os) : Input.okWideB Try.checked.prog (World.plainHolding Try.checked.prog os wit) 6 ⟨#[], wit.args, []⟩ = true := by kernel_rfl
theorem wit4 (os : Os) (H : Type) (enc : TypeId × Value → H) : Rows.fnExactJoinPiecesSpec.preB enc Try.checked.prog Try.f6 Rows.fnExactJoinPiecesRow.domain false (World.plainHolding Try.checked.prog os wit).memory wit.args 8 = true := by kernel_rfl
theorem wit5 (os : Os) (H : Type) (enc : TypeId × Value → H) : Rows.fnExactJoinPiecesSpec.sizedB enc Try.checked.prog Try.f6 false (World.plainHolding Try.checked.prog os wit).memory wit.args 8 = true := by kernel_rfl

/-! ### THE ROW's STEP: WRITTEN OUT: LEAVE IT -/
set_option maxRecDepth 100000 in
theorem lifted (os : Os) (started : os.Started) (H : Type) (enc : TypeId × Value → H) :
    ReturnsInHanded {} Try.checked os 6 .any (Rows.fnExactJoinPiecesSpec.pre6 enc Try.prog Try.f6 Rows.fnExactJoinPiecesRow.domain false) (Rows.fnExactJoinPiecesSpec.post enc Try.prog Try.f6 false true false false) := by
  have hw := ChangeSpec.witness6 (enc := enc) (C := Try.checked) (fn := Try.f6) (s := Rows.fnExactJoinPiecesSpec) (conds := Rows.fnExactJoinPiecesRow.domain) (apart := false) false wit 8 (wit1 os) (wit2 os) (wit3 os) (wit4 os H enc) (wit5 os H enc)
  refine returnsInHanded_of_change (C := Try.checked) own started (by kernel_rfl) Try.func6 hw ?_
  intro W base args ds gs before hval0 hW hcnd _
  have hval : ∀ (j : Nat) t v, Try.f6.params[j]? = some t → args[j]? = some v → Value.okWide Try.prog W .any base t v := hval0
  have hW' := hW
  obtain ⟨p, q, hA0, hV, rfl, hfz, hnd⟩ := hW
  have hA : DataW.TrodAll enc Try.prog W 0 (fun _ => true) true Try.f6.params.toList args.toList ds p := hA0
  rw [Try.params6] at hA hval
  obtain ⟨v0, vs0, d0, ds0, p0, q0, hargs, rfl, rfl, h0, r0⟩ := trodAll_cons hA
  obtain ⟨rfl, rfl, rfl⟩ := trodAll_nil r0
  obtain rfl : args = #[v0] := by cases args; simp_all
  obtain ⟨rfl, rfl⟩ := trodVars_none hV
  obtain ⟨aa0, ll0, cc0, rfl⟩ := okWide_slice Try.underlying50 (hval 0 50 v0 rfl rfl)
  have k0 := h0
  have lt0 : ∀ x ∈ p0, x.block < W.heap.size := by obtain ⟨m, hm⟩ := k0; exact DataW.trod_lt m _ _ _ hm
  obtain ⟨lz0, Az0, cz0, ez0, w0⟩ : ∃ (l : List DataM) (A : Option Addr) (c : Nat), Value.slice aa0 ll0 cc0 = .slice A l.length c ∧ Rd W (st_Data l) (.slice A l.length c) ∧ WfV (st_Data l) := by
    obtain ⟨fuel, hf⟩ := h0
    obtain ⟨l, hr, hw⟩ := openS_Data (v := .slice aa0 ll0 cc0) hf
    obtain ⟨A, c, e⟩ := st_Data_sh hr
    exact ⟨l, A, c, e, e ▸ hr, hw⟩
  obtain ⟨rfl, rfl, rfl⟩ := Value.slice.inj ez0
  clear hA0 hval0
  refine (walk _ _ _ W w0).mono fun e W' ⟨he, bel⟩ => ?_
  subst he
  exact ⟨_, rfl, _, _, _, [], _, [], hW', trodAll_mk1 (shut_bool Try.underlying4 _), (trodAll_cons_mk (Below.trod laidOut (by kernel_rfl) (of_decide_eq_true (by kernel_rfl)) k0 bel lt0) trodAll_mk0), rfl, bel.frame _, fun h => by cases h⟩

theorem over : Rows.fnExactJoinPiecesRow.holds Try.pinned (OpenSpec.ofChange Rows.fnExactJoinPiecesSpec) :=
  OpenClaim.holds_of_wide 6 Try.f6 rfl rfl rfl rfl rfl rfl rfl ⟨rfl, rfl, rfl, rfl, rfl⟩ rfl rfl rfl rfl rfl (by kernel_rfl) Try.func6 (by kernel_rfl)
    (of_decide_eq_true (by kernel_rfl)) (by unfold Func.isWrapper; first | (rw [if_pos (by decide +kernel)]; kernel_rfl) | (rw [if_neg (by decide +kernel)]; exact ⟨rfl, rfl⟩))
    (fun os started H enc _ => lifted os started H enc)

/-- ████ THE STATEMENT ████ -/
theorem proved : Rows.FnExactJoinPiecesSaid := over
#print axioms proved
end Go.Proofs.Ytbfbfimmhpijfaa.fnExactJoinPieces
