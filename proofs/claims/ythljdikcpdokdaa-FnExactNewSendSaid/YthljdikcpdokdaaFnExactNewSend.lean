/- At every number the program's NewSend answers as its model does, in memory of its own, and the law FnExactNewSend answers true. -/
import Derived.Test.YthljdikcpdokdaaRows
import Derived.Test.YthljdikcpdokdaaS10NM
import Derived.Test.YthljdikcpdokdaaUniR
import Derived.Test.YthljdikcpdokdaaLwBytes
import Derived.WalkSpells
import Derived.WalkLawsBesides
import Derived.WalkKit
import Derived.ProofKit
import Derived.OpenShut
import Derived.ShutString
import Derived.ChangeOld
import Derived.Below
namespace Go.Proofs.Ythljdikcpdokdaa.fnExactNewSend
open Go.ChangeShapes Go.WideShapes Go.ChangeAt Go.RowKit
open Go.ChangeMaps (open_string shut_string)
set_option linter.unusedVariables false

theorem own : ownKnob Try.prog.godebug = none := by kernel_rfl
theorem laidOut : laidOutB Try.prog = true := by kernel_rfl

/-- WHAT THE WALK IS TOLD OF A SLICE OF INTEGERS THAT CAME IN: it is nil; or it leads to a row of 'cap' cells, the numbers 'zs' (the first 'len' are its elements, the rest its spare room), each fitting its kind. -/
def IsRow (k : IntKind) (w : World) (a : Option Addr) (len cap : Nat) (zs : List Int) : Prop :=
  (a = none ∧ len = 0 ∧ cap = 0 ∧ zs = []) ∨
  ∃ x, a = some x ∧ len ≤ cap ∧ cap ≤ maxLen ∧ zs.length = cap ∧ (∀ i, i < zs.length → w.cell? (x.add i) = some (.int k (zs.getD i 0))) ∧ ∀ n ∈ zs, (Lit.int k n).wf = true


set_option maxRecDepth 100000 in
set_option maxHeartbeats 4000000 in
theorem walk (j0 : Int) (w : World) (w0 : WfV (.int j0)) :
    Calls Try.prog 7 #[.int .i64 j0] w fun e w' => e = .returned (.bool true) ∧ Below w.heap.size w w' := by
  have K : Below w.heap.size w w := Below.refl _ _
  go_enter Try.func7, Try.ntmps7
  have hlen := nsR_len j0 w0
  have SP := hidH (fun (u : World)   => ns_spec j0 u w0)
  have IM := hidH (fun (u : World)   => ns_impl j0 u w0)
  obtain ⟨z, hz⟩ : ∃ z, nsR j0 = z := ⟨_, rfl⟩
  rw [hz] at SP IM hlen
  clear hz 
  go_wp2_with fail
  refine (SP.out _  ).mono ?_
  rintro e w11 ⟨vs, rfl, P1, hb⟩
  obtain ⟨R1_3, r1_3, R1_4, r1_4, R1_5, r1_5, rfl⟩ := shape_SendResult P1.rd
  try simp only [World.size_alloc] at P1
  have sz := hb.size
  try simp only [World.size_alloc] at sz
  replace K := btr K hb
  clear hb
  have X1 := Blk.new w11 51 #[.int .i64 z.Code, .int .i64 z.Send_Next, .int .i64 z.Send_Acked, .slice R1_3 z.Send_Seqs.length r1_3, .slice R1_4 z.Send_Items.length r1_4, .slice R1_5 z.Datas.length r1_5, .bool z.Old]
  replace P1 := P1.below (bal (Below.refl _ _) (.cells #[.int .i64 z.Code, .int .i64 z.Send_Next, .int .i64 z.Send_Acked, .slice R1_3 z.Send_Seqs.length r1_3, .slice R1_4 z.Send_Items.length r1_4, .slice R1_5 z.Datas.length r1_5, .bool z.Old] 51))
  replace K := bal K (.cells #[.int .i64 z.Code, .int .i64 z.Send_Next, .int .i64 z.Send_Acked, .slice R1_3 z.Send_Seqs.length r1_3, .slice R1_4 z.Send_Items.length r1_4, .slice R1_5 z.Datas.length r1_5, .bool z.Old] 51)
  go_wp2_with fail
  refine (IM.out _  ).mono ?_
  rintro e w12 ⟨vs, rfl, P2, hb⟩
  obtain ⟨R2_3, r2_3, R2_4, r2_4, R2_5, r2_5, rfl⟩ := shape_SendResult P2.rd
  try simp only [World.size_alloc] at P2
  have sz := hb.size
  try simp only [World.size_alloc] at sz
  replace P1 := P1.below hb
  replace X1 := X1.below hb
  replace K := btr K hb
  clear hb
  have X2 := Blk.new w12 51 #[.int .i64 z.Code, .int .i64 z.Send_Next, .int .i64 z.Send_Acked, .slice R2_3 z.Send_Seqs.length r2_3, .slice R2_4 z.Send_Items.length r2_4, .slice R2_5 z.Datas.length r2_5, .bool z.Old]
  replace P1 := P1.below (bal (Below.refl _ _) (.cells #[.int .i64 z.Code, .int .i64 z.Send_Next, .int .i64 z.Send_Acked, .slice R2_3 z.Send_Seqs.length r2_3, .slice R2_4 z.Send_Items.length r2_4, .slice R2_5 z.Datas.length r2_5, .bool z.Old] 51))
  replace X1 := X1.alloc (.cells #[.int .i64 z.Code, .int .i64 z.Send_Next, .int .i64 z.Send_Acked, .slice R2_3 z.Send_Seqs.length r2_3, .slice R2_4 z.Send_Items.length r2_4, .slice R2_5 z.Datas.length r2_5, .bool z.Old] 51)
  replace P2 := P2.below (bal (Below.refl _ _) (.cells #[.int .i64 z.Code, .int .i64 z.Send_Next, .int .i64 z.Send_Acked, .slice R2_3 z.Send_Seqs.length r2_3, .slice R2_4 z.Send_Items.length r2_4, .slice R2_5 z.Datas.length r2_5, .bool z.Old] 51))
  replace K := bal K (.cells #[.int .i64 z.Code, .int .i64 z.Send_Next, .int .i64 z.Send_Acked, .slice R2_3 z.Send_Seqs.length r2_3, .slice R2_4 z.Send_Items.length r2_4, .slice R2_5 z.Datas.length r2_5, .bool z.Old] 51)
  have p0 := X2.cell 0
  have p1 := X2.cell 1
  have p2 := X2.cell 2
  have p3 := X2.cell 3
  have p4 := X2.cell 4
  have p5 := X2.cell 5
  have p6 := X2.cell 6
  simp only [List.getElem?_toArray, List.getElem?_cons_succ, List.getElem?_cons_zero] at p0 p1 p2 p3 p4 p5 p6
  have gp := X2.lt
  have q0 := X1.cell 0
  have q1 := X1.cell 1
  have q2 := X1.cell 2
  have q3 := X1.cell 3
  have q4 := X1.cell 4
  have q5 := X1.cell 5
  have q6 := X1.cell 6
  simp only [List.getElem?_toArray, List.getElem?_cons_succ, List.getElem?_cons_zero] at q0 q1 q2 q3 q4 q5 q6
  have gq := X1.lt
  go_wp2_with fail
  clear p0 p1 p2 p3 p4 p5 p6 gp
  clear q0 q1 q2 q3 q4 q5 q6 gq
  refine (eqA_SendResult z P2.rd P1.rd).mono ?_
  rintro e w13 ⟨rfl, hb⟩
  have sz := hb.size
  try simp only [World.size_alloc] at sz
  replace P1 := P1.below hb
  replace X1 := X1.below hb
  replace P2 := P2.below hb
  replace X2 := X2.below hb
  replace K := btr K hb
  clear hb
  have p0 := X2.cell 0
  have p1 := X2.cell 1
  have p2 := X2.cell 2
  have p3 := X2.cell 3
  have p4 := X2.cell 4
  have p5 := X2.cell 5
  have p6 := X2.cell 6
  simp only [List.getElem?_toArray, List.getElem?_cons_succ, List.getElem?_cons_zero] at p0 p1 p2 p3 p4 p5 p6
  have gp := X2.lt
  go_wp2_with fail
  clear p0 p1 p2 p3 p4 p5 p6 gp
  refine (markA_SendResult z (S := Wn _ _) (k := 1) (Wn.sub (Nat.zero_le _) P2.1) P2.2 (by omega)).mono ?_
  rintro e w14 ⟨rfl, hc, ho⟩
  have W := hc.win (fun _ _ h => h)
  have M2 := And.intro (Nat.le_trans P2.1 hc.size) ho
  replace M2 : OwN _ _ _ _ _ := M2
  clear hc ho
  have sz := W.size
  replace P1 := P1.win W (.inl (by omega))
  replace X1 := Blk.win2 X1 W (.inl (by omega))
  replace X2 := Blk.win2 X2 W (.inr (by omega))
  replace K := K.trans ((W.below (by omega)).mono (by omega))
  clear W
  clear P2
  have p0 := X2.cell 0
  have p1 := X2.cell 1
  have p2 := X2.cell 2
  have p3 := X2.cell 3
  have p4 := X2.cell 4
  have p5 := X2.cell 5
  have p6 := X2.cell 6
  simp only [List.getElem?_toArray, List.getElem?_cons_succ, List.getElem?_cons_zero] at p0 p1 p2 p3 p4 p5 p6
  have gp := X2.lt
  go_wp2_with fail
  clear p0 p1 p2 p3 p4 p5 p6 gp
  refine (heldA_SendResult z (k := 1) M2.rd (by omega)).mono ?_
  rintro e w15 ⟨rfl, hb⟩
  have sz := hb.size
  try simp only [World.size_alloc] at sz
  replace P1 := P1.below hb
  replace X1 := X1.below hb
  replace X2 := X2.below hb
  replace M2 := M2.below hb
  replace K := btr K hb
  clear hb
  have kpos : ¬ (((1 + vcA z.vs : Nat) : Int) < 0) := by omega
  go_wp2_with fail
  refine (IM.out _  ).mono ?_
  rintro e w16 ⟨vs, rfl, P3, hb⟩
  obtain ⟨R3_3, r3_3, R3_4, r3_4, R3_5, r3_5, rfl⟩ := shape_SendResult P3.rd
  try simp only [World.size_alloc] at P3
  have sz := hb.size
  try simp only [World.size_alloc] at sz
  replace P1 := P1.below hb
  replace X1 := X1.below hb
  replace X2 := X2.below hb
  replace M2 := M2.below hb
  replace K := btr K hb
  clear hb
  have X3 := Blk.new w16 51 #[.int .i64 z.Code, .int .i64 z.Send_Next, .int .i64 z.Send_Acked, .slice R3_3 z.Send_Seqs.length r3_3, .slice R3_4 z.Send_Items.length r3_4, .slice R3_5 z.Datas.length r3_5, .bool z.Old]
  replace P1 := P1.below (bal (Below.refl _ _) (.cells #[.int .i64 z.Code, .int .i64 z.Send_Next, .int .i64 z.Send_Acked, .slice R3_3 z.Send_Seqs.length r3_3, .slice R3_4 z.Send_Items.length r3_4, .slice R3_5 z.Datas.length r3_5, .bool z.Old] 51))
  replace X1 := X1.alloc (.cells #[.int .i64 z.Code, .int .i64 z.Send_Next, .int .i64 z.Send_Acked, .slice R3_3 z.Send_Seqs.length r3_3, .slice R3_4 z.Send_Items.length r3_4, .slice R3_5 z.Datas.length r3_5, .bool z.Old] 51)
  replace X2 := X2.alloc (.cells #[.int .i64 z.Code, .int .i64 z.Send_Next, .int .i64 z.Send_Acked, .slice R3_3 z.Send_Seqs.length r3_3, .slice R3_4 z.Send_Items.length r3_4, .slice R3_5 z.Datas.length r3_5, .bool z.Old] 51)
  replace M2 := M2.below (bal (Below.refl _ _) (.cells #[.int .i64 z.Code, .int .i64 z.Send_Next, .int .i64 z.Send_Acked, .slice R3_3 z.Send_Seqs.length r3_3, .slice R3_4 z.Send_Items.length r3_4, .slice R3_5 z.Datas.length r3_5, .bool z.Old] 51))
  replace P3 := P3.below (bal (Below.refl _ _) (.cells #[.int .i64 z.Code, .int .i64 z.Send_Next, .int .i64 z.Send_Acked, .slice R3_3 z.Send_Seqs.length r3_3, .slice R3_4 z.Send_Items.length r3_4, .slice R3_5 z.Datas.length r3_5, .bool z.Old] 51))
  replace K := bal K (.cells #[.int .i64 z.Code, .int .i64 z.Send_Next, .int .i64 z.Send_Acked, .slice R3_3 z.Send_Seqs.length r3_3, .slice R3_4 z.Send_Items.length r3_4, .slice R3_5 z.Datas.length r3_5, .bool z.Old] 51)
  have p0 := X3.cell 0
  have p1 := X3.cell 1
  have p2 := X3.cell 2
  have p3 := X3.cell 3
  have p4 := X3.cell 4
  have p5 := X3.cell 5
  have p6 := X3.cell 6
  simp only [List.getElem?_toArray, List.getElem?_cons_succ, List.getElem?_cons_zero] at p0 p1 p2 p3 p4 p5 p6
  have gp := X3.lt
  have q0 := X1.cell 0
  have q1 := X1.cell 1
  have q2 := X1.cell 2
  have q3 := X1.cell 3
  have q4 := X1.cell 4
  have q5 := X1.cell 5
  have q6 := X1.cell 6
  simp only [List.getElem?_toArray, List.getElem?_cons_succ, List.getElem?_cons_zero] at q0 q1 q2 q3 q4 q5 q6
  have gq := X1.lt
  go_wp2_with fail
  clear p0 p1 p2 p3 p4 p5 p6 gp
  clear q0 q1 q2 q3 q4 q5 q6 gq
  refine (eqA_SendResult z P3.rd P1.rd).mono ?_
  rintro e w17 ⟨rfl, hb⟩
  have sz := hb.size
  try simp only [World.size_alloc] at sz
  replace P1 := P1.below hb
  replace X1 := X1.below hb
  replace X2 := X2.below hb
  replace M2 := M2.below hb
  replace P3 := P3.below hb
  replace X3 := X3.below hb
  replace K := btr K hb
  clear hb
  clear P3
  clear X3
  clear P1
  clear X1
  clear kpos
  have p0 := X2.cell 0
  have p1 := X2.cell 1
  have p2 := X2.cell 2
  have p3 := X2.cell 3
  have p4 := X2.cell 4
  have p5 := X2.cell 5
  have p6 := X2.cell 6
  simp only [List.getElem?_toArray, List.getElem?_cons_succ, List.getElem?_cons_zero] at p0 p1 p2 p3 p4 p5 p6
  have gp := X2.lt
  go_wp2_with fail
  clear p0 p1 p2 p3 p4 p5 p6 gp
  refine (heldA_SendResult z (k := 1) M2.rd (by omega)).mono ?_
  rintro e w18 ⟨rfl, hb⟩
  have sz := hb.size
  try simp only [World.size_alloc] at sz
  replace X2 := X2.below hb
  replace M2 := M2.below hb
  replace K := btr K hb
  clear hb
  have kpos : ¬ (((1 + vcA z.vs : Nat) : Int) < 0) := by omega
  go_wp2
  go_ret
  exact ⟨rfl, K⟩

/-- An input that the row's conditions hold of: the witness laid as theorems of their own (inside the refine Lean does not come to an end). -/
def wit : Input := ⟨#[], #[.int .i64 0], []⟩
theorem wit1 (os : Os) : (World.plainHolding Try.checked.prog os wit).variablesB Try.checked.prog = true := by kernel_rfl
theorem wit2 (os : Os) : ((World.plainHolding Try.checked.prog os wit).heap.toList.drop Try.checked.prog.globals.size).take ((begin Try.checked.prog (fun _ _ => 0) default).world.heap.size - Try.checked.prog.globals.size) =
    (begin Try.checked.prog (fun _ _ => 0) default).world.heap.toList.drop Try.checked.prog.globals.size := by kernel_rfl
theorem wit3 (os : Os) : Input.okWideB Try.checked.prog (World.plainHolding Try.checked.prog os wit) 7 ⟨#[], wit.args, []⟩ = true := by kernel_rfl
theorem wit4 (os : Os) (H : Type) (enc : TypeId × Value → H) : Rows.fnExactNewSendSpec.preB enc Try.checked.prog Try.f7 Rows.fnExactNewSendRow.domain false (World.plainHolding Try.checked.prog os wit).memory wit.args 8 = true := by kernel_rfl
theorem wit5 (os : Os) (H : Type) (enc : TypeId × Value → H) : Rows.fnExactNewSendSpec.sizedB enc Try.checked.prog Try.f7 false (World.plainHolding Try.checked.prog os wit).memory wit.args 8 = true := by kernel_rfl

/-! ### THE ROW's STEP: WRITTEN OUT: LEAVE IT -/
set_option maxRecDepth 100000 in
theorem lifted (os : Os) (started : os.Started) (H : Type) (enc : TypeId × Value → H) :
    ReturnsInHanded {} Try.checked os 7 .any (Rows.fnExactNewSendSpec.pre6 enc Try.prog Try.f7 Rows.fnExactNewSendRow.domain false) (Rows.fnExactNewSendSpec.post enc Try.prog Try.f7 false true false false) := by
  have hw := ChangeSpec.witness6 (enc := enc) (C := Try.checked) (fn := Try.f7) (s := Rows.fnExactNewSendSpec) (conds := Rows.fnExactNewSendRow.domain) (apart := false) false wit 8 (wit1 os) (wit2 os) (wit3 os) (wit4 os H enc) (wit5 os H enc)
  refine returnsInHanded_of_change (C := Try.checked) own started (by kernel_rfl) Try.func7 hw ?_
  intro W base args ds gs before hval0 hW hcnd _
  have hval : ∀ (j : Nat) t v, Try.f7.params[j]? = some t → args[j]? = some v → Value.okWide Try.prog W .any base t v := hval0
  have hW' := hW
  obtain ⟨p, q, hA0, hV, rfl, hfz, hnd⟩ := hW
  have hA : DataW.TrodAll enc Try.prog W 0 (fun _ => true) true Try.f7.params.toList args.toList ds p := hA0
  rw [Try.params7] at hA hval
  obtain ⟨v0, vs0, d0, ds0, p0, q0, hargs, rfl, rfl, h0, r0⟩ := trodAll_cons hA
  obtain ⟨rfl, rfl, rfl⟩ := trodAll_nil r0
  obtain rfl : args = #[v0] := by cases args; simp_all
  obtain ⟨rfl, rfl⟩ := trodVars_none hV
  have k0 := h0
  have lt0 : ∀ x ∈ p0, x.block < W.heap.size := by obtain ⟨m, hm⟩ := k0; exact DataW.trod_lt m _ _ _ hm
  obtain ⟨j0, rfl⟩ := okWide_int Try.underlying2 (hval 0 2 v0 rfl rfl)
  have w0 : WfV (.int j0) := by
    obtain ⟨fuel, hf⟩ := h0
    obtain ⟨n0, e0, _, wf0⟩ := DataW.trod_int Try.underlying2 hf
    obtain rfl : j0 = n0 := by simpa [Value.cells] using e0
    exact wf_int wf0
  clear hA0 hval0
  refine (walk j0 W w0).mono fun e W' ⟨he, bel⟩ => ?_
  subst he
  exact ⟨_, rfl, _, _, _, [], _, [], hW', trodAll_mk1 (shut_bool Try.underlying4 _), (trodAll_cons_mk (Below.trod laidOut (by kernel_rfl) (of_decide_eq_true (by kernel_rfl)) k0 bel lt0) trodAll_mk0), rfl, bel.frame _, fun h => by cases h⟩

theorem over : Rows.fnExactNewSendRow.holds Try.pinned (OpenSpec.ofChange Rows.fnExactNewSendSpec) :=
  OpenClaim.holds_of_wide 7 Try.f7 rfl rfl rfl rfl rfl rfl rfl ⟨rfl, rfl, rfl, rfl, rfl⟩ rfl rfl rfl rfl rfl (by kernel_rfl) Try.func7 (by kernel_rfl)
    (of_decide_eq_true (by kernel_rfl)) (by unfold Func.isWrapper; first | (rw [if_pos (by decide +kernel)]; kernel_rfl) | (rw [if_neg (by decide +kernel)]; exact ⟨rfl, rfl⟩))
    (fun os started H enc _ => lifted os started H enc)

/-- ████ THE STATEMENT ████ -/
theorem proved : Rows.FnExactNewSendSaid := over
#print axioms proved
end Go.Proofs.Ythljdikcpdokdaa.fnExactNewSend
