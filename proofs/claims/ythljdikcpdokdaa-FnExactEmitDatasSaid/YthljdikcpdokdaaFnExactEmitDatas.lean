/- At every sender and every three numbers the program's EmitDatas answers as its model does, in memory of its own, it leaves its argument as it was, and the law FnExactEmitDatas answers true. -/
import Derived.Test.YthljdikcpdokdaaRows
import Derived.Test.YthljdikcpdokdaaS10ET
import Derived.Test.YthljdikcpdokdaaS10EI
import Derived.Test.YthljdikcpdokdaaNa5
import Derived.Test.YthljdikcpdokdaaNa7
import Derived.Test.YthljdikcpdokdaaFnExactEmitDatasR
import Derived.WalkSpells
import Derived.WalkLawsBesides
import Derived.WalkKit
import Derived.ProofKit
import Derived.OpenShut
import Derived.ShutString
import Derived.ChangeOld
import Derived.Below
namespace Go.Proofs.Ythljdikcpdokdaa.fnExactEmitDatas
open Go.ChangeShapes Go.WideShapes Go.ChangeAt Go.RowKit
open Go.ChangeMaps (open_string shut_string)
set_option linter.unusedVariables false

theorem own : ownKnob Try.prog.godebug = none := by kernel_rfl
theorem laidOut : laidOutB Try.prog = true := by kernel_rfl

/-- WHAT THE WALK IS TOLD OF A SLICE OF INTEGERS THAT CAME IN: it is nil; or it leads to a row of 'cap' cells, the numbers 'zs' (the first 'len' are its elements, the rest its spare room), each fitting its kind. -/
def IsRow (k : IntKind) (w : World) (a : Option Addr) (len cap : Nat) (zs : List Int) : Prop :=
  (a = none ∧ len = 0 ∧ cap = 0 ∧ zs = []) ∨
  ∃ x, a = some x ∧ len ≤ cap ∧ cap ≤ maxLen ∧ zs.length = cap ∧ (∀ i, i < zs.length → w.cell? (x.add i) = some (.int k (zs.getD i 0))) ∧ ∀ n ∈ zs, (Lit.int k n).wf = true


set_option maxRecDepth 100000 in
set_option maxHeartbeats 4000000 in
theorem walk (y0 : SendM) (A0_2 : Option Addr) (c0_2 : Nat) (A0_3 : Option Addr) (c0_3 : Nat) (j1 : Int) (j2 : Int) (j3 : Int) (w : World) (w0 : RdA w y0.vs [.int .i64 y0.Next, .int .i64 y0.Acked, .slice A0_2 y0.Seqs.length c0_2, .slice A0_3 y0.Items.length c0_3] ∧ WfA y0.vs) (w1 : WfV (.int j1)) (w2 : WfV (.int j2)) (w3 : WfV (.int j3)) :
    Calls Try.prog 9 #[.agg #[.int .i64 y0.Next, .int .i64 y0.Acked, .slice A0_2 y0.Seqs.length c0_2, .slice A0_3 y0.Items.length c0_3], .int .i64 j1, .int .i64 j2, .int .i64 j3] w fun e w' => e = .returned (.bool true) ∧ Below w.heap.size w w' := by
  obtain ⟨hr0, hwf0⟩ := w0
  have K : Below w.heap.size w w := Below.refl _ _
  have KB0 := Blk.new w 73 #[.int .i64 y0.Next, .int .i64 y0.Acked, .slice A0_2 y0.Seqs.length c0_2, .slice A0_3 y0.Items.length c0_3]
  replace K := bal K (.cells #[.int .i64 y0.Next, .int .i64 y0.Acked, .slice A0_2 y0.Seqs.length c0_2, .slice A0_3 y0.Items.length c0_3] 73)
  obtain ⟨w10, hw1⟩ : ∃ w10, (w.alloc (.cells #[.int .i64 y0.Next, .int .i64 y0.Acked, .slice A0_2 y0.Seqs.length c0_2, .slice A0_3 y0.Items.length c0_3] 73)) = w10 := ⟨_, rfl⟩
  rw [hw1] at K KB0
  have HW1 := hidH hw1
  clear hw1
  have hKB0 := KB0.lt
  have KK := hidH K
  clear KK
  have HRD0 := hidH (fun (u : World) (h : Below w.heap.size w u) => RdA.below h hr0)
  have HWF0 := hidH hwf0
  clear hr0 hwf0
  go_enter Try.func9, Try.ntmps9
  go_wp2_with fail
  rw [HW1.out]
  refine (szA_Send y0 (left := 1048576) (HRD0.out _ K) (by omega) (by omega)).mono ?_
  rintro e w11 ⟨z0, rfl, hz0, hb⟩
  have sz := hb.size
  try simp only [World.size_alloc] at sz
  replace KB0 := KB0.below hb
  replace K := btr K hb
  clear hb
  have HZ0 := hidH hz0
  clear hz0
  by_cases h0 : z0 < 0
  · go_wp2
    go_ret
    exact ⟨rfl, K⟩
  · have ht0 : tot.totL y0.vs ≤ 1048576 := by have := HZ0.out.2.2 (by omega); omega
    have hzp0 : 0 ≤ z0 := by omega
    have hzl0 : z0 ≤ 1048576 := by have := HZ0.out.2.1; omega
    clear h0
    have hlen := emR_len y0 j1 j2 j3 HWF0.out ht0 w1 w2 w3
    have hcn0 : vcA y0.vs ≤ 1000000000 := cnt_Send y0 ht0
    have TO0 := hidH (fun (u : World) (h : Below w.heap.size w u) => toA_Send y0 (HRD0.out u h) ht0)
    have SP := hidH (fun (u : World) (v0 : List Value) (h0 : RdA u y0.vs v0) => em_spec y0 v0 j1 j2 j3 u h0 HWF0.out ht0 w1 w2 w3)
    have IM := hidH (fun (u : World) (v0 : List Value) (h0 : RdA u y0.vs v0) => em_impl y0 v0 j1 j2 j3 u h0 HWF0.out ht0 w1 w2 w3)
    obtain ⟨z, hz⟩ : ∃ z, emR y0 j1 j2 j3 = z := ⟨_, rfl⟩
    rw [hz] at SP IM hlen
    clear hz ht0
    clear HZ0
    have p0 := KB0.cell 0
    have p1 := KB0.cell 1
    have p2 := KB0.cell 2
    have p3 := KB0.cell 3
    simp only [List.getElem?_toArray, List.getElem?_cons_succ, List.getElem?_cons_zero] at p0 p1 p2 p3
    have gp := KB0.lt
    go_wp2_with fail
    clear p0 p1 p2 p3 gp
    refine (TO0.out _ K).mono ?_
    rintro e w12 ⟨vs, rfl, Qa0, hb⟩
    obtain ⟨Ea0_2, ea0_2, Ea0_3, ea0_3, rfl⟩ := shape_Send Qa0.rd
    try simp only [World.size_alloc] at Qa0
    have sz := hb.size
    try simp only [World.size_alloc] at sz
    replace KB0 := KB0.below hb
    replace K := btr K hb
    clear hb
    go_wp2_with fail
    refine (SP.out _ _ Qa0.rd).mono ?_
    rintro e w13 ⟨vs, rfl, P1, hb⟩
    obtain ⟨R1_3, r1_3, R1_4, r1_4, R1_5, r1_5, rfl⟩ := shape_SendResult P1.rd
    try simp only [World.size_alloc] at P1
    have sz := hb.size
    try simp only [World.size_alloc] at sz
    replace KB0 := KB0.below hb
    replace Qa0 := Qa0.below hb
    replace K := btr K hb
    clear hb
    have X1 := Blk.new w13 51 #[.int .i64 z.Code, .int .i64 z.Send_Next, .int .i64 z.Send_Acked, .slice R1_3 z.Send_Seqs.length r1_3, .slice R1_4 z.Send_Items.length r1_4, .slice R1_5 z.Datas.length r1_5, .bool z.Old]
    replace KB0 := KB0.alloc (.cells #[.int .i64 z.Code, .int .i64 z.Send_Next, .int .i64 z.Send_Acked, .slice R1_3 z.Send_Seqs.length r1_3, .slice R1_4 z.Send_Items.length r1_4, .slice R1_5 z.Datas.length r1_5, .bool z.Old] 51)
    replace Qa0 := Qa0.below (bal (Below.refl _ _) (.cells #[.int .i64 z.Code, .int .i64 z.Send_Next, .int .i64 z.Send_Acked, .slice R1_3 z.Send_Seqs.length r1_3, .slice R1_4 z.Send_Items.length r1_4, .slice R1_5 z.Datas.length r1_5, .bool z.Old] 51))
    replace P1 := P1.below (bal (Below.refl _ _) (.cells #[.int .i64 z.Code, .int .i64 z.Send_Next, .int .i64 z.Send_Acked, .slice R1_3 z.Send_Seqs.length r1_3, .slice R1_4 z.Send_Items.length r1_4, .slice R1_5 z.Datas.length r1_5, .bool z.Old] 51))
    replace K := bal K (.cells #[.int .i64 z.Code, .int .i64 z.Send_Next, .int .i64 z.Send_Acked, .slice R1_3 z.Send_Seqs.length r1_3, .slice R1_4 z.Send_Items.length r1_4, .slice R1_5 z.Datas.length r1_5, .bool z.Old] 51)
    clear Qa0
    have p0 := KB0.cell 0
    have p1 := KB0.cell 1
    have p2 := KB0.cell 2
    have p3 := KB0.cell 3
    simp only [List.getElem?_toArray, List.getElem?_cons_succ, List.getElem?_cons_zero] at p0 p1 p2 p3
    have gp := KB0.lt
    go_wp2_with fail
    clear p0 p1 p2 p3 gp
    refine (TO0.out _ K).mono ?_
    rintro e w14 ⟨vs, rfl, Qx0, hb⟩
    obtain ⟨Ex0_2, ex0_2, Ex0_3, ex0_3, rfl⟩ := shape_Send Qx0.rd
    try simp only [World.size_alloc] at Qx0
    have sz := hb.size
    try simp only [World.size_alloc] at sz
    replace KB0 := KB0.below hb
    replace P1 := P1.below hb
    replace X1 := X1.below hb
    replace K := btr K hb
    clear hb
    have XX0 := Blk.new w14 47 #[.int .i64 y0.Next, .int .i64 y0.Acked, .slice Ex0_2 y0.Seqs.length ex0_2, .slice Ex0_3 y0.Items.length ex0_3]
    replace KB0 := KB0.alloc (.cells #[.int .i64 y0.Next, .int .i64 y0.Acked, .slice Ex0_2 y0.Seqs.length ex0_2, .slice Ex0_3 y0.Items.length ex0_3] 47)
    replace P1 := P1.below (bal (Below.refl _ _) (.cells #[.int .i64 y0.Next, .int .i64 y0.Acked, .slice Ex0_2 y0.Seqs.length ex0_2, .slice Ex0_3 y0.Items.length ex0_3] 47))
    replace X1 := X1.alloc (.cells #[.int .i64 y0.Next, .int .i64 y0.Acked, .slice Ex0_2 y0.Seqs.length ex0_2, .slice Ex0_3 y0.Items.length ex0_3] 47)
    replace Qx0 := Qx0.below (bal (Below.refl _ _) (.cells #[.int .i64 y0.Next, .int .i64 y0.Acked, .slice Ex0_2 y0.Seqs.length ex0_2, .slice Ex0_3 y0.Items.length ex0_3] 47))
    replace K := bal K (.cells #[.int .i64 y0.Next, .int .i64 y0.Acked, .slice Ex0_2 y0.Seqs.length ex0_2, .slice Ex0_3 y0.Items.length ex0_3] 47)
    have b00 := XX0.cell 0
    have b01 := XX0.cell 1
    have b02 := XX0.cell 2
    have b03 := XX0.cell 3
    simp only [List.getElem?_toArray, List.getElem?_cons_succ, List.getElem?_cons_zero] at b00 b01 b02 b03
    have gb0 := XX0.lt
    go_wp2_with fail
    clear b00 b01 b02 b03 gb0
    refine (IM.out _ _ Qx0.rd).mono ?_
    rintro e w15 ⟨vs, rfl, P2, hb⟩
    obtain ⟨R2_3, r2_3, R2_4, r2_4, R2_5, r2_5, rfl⟩ := shape_SendResult P2.rd
    try simp only [World.size_alloc] at P2
    have sz := hb.size
    try simp only [World.size_alloc] at sz
    replace KB0 := KB0.below hb
    replace P1 := P1.below hb
    replace X1 := X1.below hb
    replace Qx0 := Qx0.below hb
    replace XX0 := XX0.below hb
    replace K := btr K hb
    clear hb
    have X2 := Blk.new w15 51 #[.int .i64 z.Code, .int .i64 z.Send_Next, .int .i64 z.Send_Acked, .slice R2_3 z.Send_Seqs.length r2_3, .slice R2_4 z.Send_Items.length r2_4, .slice R2_5 z.Datas.length r2_5, .bool z.Old]
    replace KB0 := KB0.alloc (.cells #[.int .i64 z.Code, .int .i64 z.Send_Next, .int .i64 z.Send_Acked, .slice R2_3 z.Send_Seqs.length r2_3, .slice R2_4 z.Send_Items.length r2_4, .slice R2_5 z.Datas.length r2_5, .bool z.Old] 51)
    replace P1 := P1.below (bal (Below.refl _ _) (.cells #[.int .i64 z.Code, .int .i64 z.Send_Next, .int .i64 z.Send_Acked, .slice R2_3 z.Send_Seqs.length r2_3, .slice R2_4 z.Send_Items.length r2_4, .slice R2_5 z.Datas.length r2_5, .bool z.Old] 51))
    replace X1 := X1.alloc (.cells #[.int .i64 z.Code, .int .i64 z.Send_Next, .int .i64 z.Send_Acked, .slice R2_3 z.Send_Seqs.length r2_3, .slice R2_4 z.Send_Items.length r2_4, .slice R2_5 z.Datas.length r2_5, .bool z.Old] 51)
    replace Qx0 := Qx0.below (bal (Below.refl _ _) (.cells #[.int .i64 z.Code, .int .i64 z.Send_Next, .int .i64 z.Send_Acked, .slice R2_3 z.Send_Seqs.length r2_3, .slice R2_4 z.Send_Items.length r2_4, .slice R2_5 z.Datas.length r2_5, .bool z.Old] 51))
    replace XX0 := XX0.alloc (.cells #[.int .i64 z.Code, .int .i64 z.Send_Next, .int .i64 z.Send_Acked, .slice R2_3 z.Send_Seqs.length r2_3, .slice R2_4 z.Send_Items.length r2_4, .slice R2_5 z.Datas.length r2_5, .bool z.Old] 51)
    replace P2 := P2.below (bal (Below.refl _ _) (.cells #[.int .i64 z.Code, .int .i64 z.Send_Next, .int .i64 z.Send_Acked, .slice R2_3 z.Send_Seqs.length r2_3, .slice R2_4 z.Send_Items.length r2_4, .slice R2_5 z.Datas.length r2_5, .bool z.Old] 51))
    replace K := bal K (.cells #[.int .i64 z.Code, .int .i64 z.Send_Next, .int .i64 z.Send_Acked, .slice R2_3 z.Send_Seqs.length r2_3, .slice R2_4 z.Send_Items.length r2_4, .slice R2_5 z.Datas.length r2_5, .bool z.Old] 51)
    have p0 := X2.cell 0
    have p1 := X2.cell 1
    have p2 := X2.cell 2
    have p3 := X2.cell 3
    have p4 := X2.cell 4
    have p5 := X2.cell 5
    have p6 := X2.cell 6
    simp only [List.getElem?_toArray, List.getElem?_cons_succ, List.getElem?_cons_zero] at p0 p1 p2 p3 p4 p5 p6
    have gp := X2.lt
    have q0 := X1.cell 0
    have q1 := X1.cell 1
    have q2 := X1.cell 2
    have q3 := X1.cell 3
    have q4 := X1.cell 4
    have q5 := X1.cell 5
    have q6 := X1.cell 6
    simp only [List.getElem?_toArray, List.getElem?_cons_succ, List.getElem?_cons_zero] at q0 q1 q2 q3 q4 q5 q6
    have gq := X1.lt
    go_wp2_with fail
    clear p0 p1 p2 p3 p4 p5 p6 gp
    clear q0 q1 q2 q3 q4 q5 q6 gq
    refine (eqA_SendResult z P2.rd P1.rd).mono ?_
    rintro e w16 ⟨rfl, hb⟩
    have sz := hb.size
    try simp only [World.size_alloc] at sz
    replace KB0 := KB0.below hb
    replace P1 := P1.below hb
    replace X1 := X1.below hb
    replace Qx0 := Qx0.below hb
    replace XX0 := XX0.below hb
    replace P2 := P2.below hb
    replace X2 := X2.below hb
    replace K := btr K hb
    clear hb
    go_wp2_with fail
    refine wp_region_any (by kernel_rfl) ?_
    refine regFnExactEmitDatas_0 _ _ _ _ _ _ _ _ _ _ _ _ _ _ _ _ _ _ _ _ _ _ _ _ _ _ _ _ _ _ _ _ _ _ _ _ _ w16 _ _ y0 _ _ _ _ _ _ _ _ (fun u h => TO0.out u (btr K h)) (fun u vs h k => eqA_Send y0 (RdA.below h Qx0.rd) k) (by kernel_rfl) (by kernel_rfl) (by kernel_rfl) rfl (KB0.below (Below.refl _ _).drew) (XX0.below (Below.refl _ _).drew) ((Below.refl _ _).drew) (Below.refl _ _) ?_
    intros
    rename_i w17 m1 m2 m3 hb
    clear m1 m2 m3
    replace hb := (Below.refl _ _).drew.trans hb
    have sz := hb.size
    try simp only [World.size_alloc] at sz
    replace KB0 := KB0.below hb
    replace P1 := P1.below hb
    replace X1 := X1.below hb
    replace Qx0 := Qx0.below hb
    replace XX0 := XX0.below hb
    replace P2 := P2.below hb
    replace X2 := X2.below hb
    replace K := btr K hb
    clear hb
    have p0 := XX0.cell 0
    have p1 := XX0.cell 1
    have p2 := XX0.cell 2
    have p3 := XX0.cell 3
    simp only [List.getElem?_toArray, List.getElem?_cons_succ, List.getElem?_cons_zero] at p0 p1 p2 p3
    have gp := XX0.lt
    go_wp2_with fail
    clear p0 p1 p2 p3 gp
    refine (markA_Send y0 (S := Wn _ _) (k := 1) (Wn.sub (Nat.zero_le _) Qx0.1) Qx0.2 (by omega)).mono ?_
    rintro e w18 ⟨rfl, hc, _⟩
    have W := hc.win (fun _ _ h => h)
    clear hc
    have sz := W.size
    replace KB0 := Blk.win2 KB0 W (.inl (by omega))
    replace P1 := P1.win W (.inl (by omega))
    replace X1 := Blk.win2 X1 W (.inl (by omega))
    replace XX0 := Blk.win2 XX0 W (.inr (by omega))
    replace P2 := P2.win W (.inr (by omega))
    replace X2 := Blk.win2 X2 W (.inr (by omega))
    replace K := K.trans ((W.below (by omega)).mono (by omega))
    clear W
    clear Qx0
    have kpos : ¬ (((1 + vcA y0.vs : Nat) : Int) < 0) := by omega
    have p0 := X2.cell 0
    have p1 := X2.cell 1
    have p2 := X2.cell 2
    have p3 := X2.cell 3
    have p4 := X2.cell 4
    have p5 := X2.cell 5
    have p6 := X2.cell 6
    simp only [List.getElem?_toArray, List.getElem?_cons_succ, List.getElem?_cons_zero] at p0 p1 p2 p3 p4 p5 p6
    have gp := X2.lt
    have q0 := X1.cell 0
    have q1 := X1.cell 1
    have q2 := X1.cell 2
    have q3 := X1.cell 3
    have q4 := X1.cell 4
    have q5 := X1.cell 5
    have q6 := X1.cell 6
    simp only [List.getElem?_toArray, List.getElem?_cons_succ, List.getElem?_cons_zero] at q0 q1 q2 q3 q4 q5 q6
    have gq := X1.lt
    go_wp2_with fail
    clear p0 p1 p2 p3 p4 p5 p6 gp
    clear q0 q1 q2 q3 q4 q5 q6 gq
    refine (eqA_SendResult z P2.rd P1.rd).mono ?_
    rintro e w19 ⟨rfl, hb⟩
    have sz := hb.size
    try simp only [World.size_alloc] at sz
    replace KB0 := KB0.below hb
    replace P1 := P1.below hb
    replace X1 := X1.below hb
    replace XX0 := XX0.below hb
    replace P2 := P2.below hb
    replace X2 := X2.below hb
    replace K := btr K hb
    clear hb
    clear kpos
    have p0 := X2.cell 0
    have p1 := X2.cell 1
    have p2 := X2.cell 2
    have p3 := X2.cell 3
    have p4 := X2.cell 4
    have p5 := X2.cell 5
    have p6 := X2.cell 6
    simp only [List.getElem?_toArray, List.getElem?_cons_succ, List.getElem?_cons_zero] at p0 p1 p2 p3 p4 p5 p6
    have gp := X2.lt
    go_wp2_with fail
    clear p0 p1 p2 p3 p4 p5 p6 gp
    refine (markA_SendResult z (S := Wn _ _) (k := 1) (Wn.sub (Nat.zero_le _) P2.1) P2.2 (by omega)).mono ?_
    rintro e w20 ⟨rfl, hc, ho⟩
    have W := hc.win (fun _ _ h => h)
    have M2 := And.intro (Nat.le_trans P2.1 hc.size) ho
    replace M2 : OwN _ _ _ _ _ := M2
    clear hc ho
    have sz := W.size
    replace KB0 := Blk.win2 KB0 W (.inl (by omega))
    replace P1 := P1.win W (.inl (by omega))
    replace X1 := Blk.win2 X1 W (.inl (by omega))
    replace XX0 := Blk.win2 XX0 W (.inl (by omega))
    replace X2 := Blk.win2 X2 W (.inr (by omega))
    replace K := K.trans ((W.below (by omega)).mono (by omega))
    clear W
    clear P2
    have p0 := X2.cell 0
    have p1 := X2.cell 1
    have p2 := X2.cell 2
    have p3 := X2.cell 3
    have p4 := X2.cell 4
    have p5 := X2.cell 5
    have p6 := X2.cell 6
    simp only [List.getElem?_toArray, List.getElem?_cons_succ, List.getElem?_cons_zero] at p0 p1 p2 p3 p4 p5 p6
    have gp := X2.lt
    go_wp2_with fail
    clear p0 p1 p2 p3 p4 p5 p6 gp
    refine (heldA_SendResult z (k := 1) M2.rd (by omega)).mono ?_
    rintro e w21 ⟨rfl, hb⟩
    have sz := hb.size
    try simp only [World.size_alloc] at sz
    replace KB0 := KB0.below hb
    replace P1 := P1.below hb
    replace X1 := X1.below hb
    replace XX0 := XX0.below hb
    replace X2 := X2.below hb
    replace M2 := M2.below hb
    replace K := btr K hb
    clear hb
    have kpos : ¬ (((1 + vcA z.vs : Nat) : Int) < 0) := by omega
    have p0 := KB0.cell 0
    have p1 := KB0.cell 1
    have p2 := KB0.cell 2
    have p3 := KB0.cell 3
    simp only [List.getElem?_toArray, List.getElem?_cons_succ, List.getElem?_cons_zero] at p0 p1 p2 p3
    have gp := KB0.lt
    go_wp2_with fail
    clear p0 p1 p2 p3 gp
    refine (TO0.out _ K).mono ?_
    rintro e w22 ⟨vs, rfl, Qh0, hb⟩
    obtain ⟨Eh0_2, eh0_2, Eh0_3, eh0_3, rfl⟩ := shape_Send Qh0.rd
    try simp only [World.size_alloc] at Qh0
    have sz := hb.size
    try simp only [World.size_alloc] at sz
    replace KB0 := KB0.below hb
    replace P1 := P1.below hb
    replace X1 := X1.below hb
    replace XX0 := XX0.below hb
    replace X2 := X2.below hb
    replace M2 := M2.below hb
    replace K := btr K hb
    clear hb
    go_wp2_with fail
    refine (IM.out _ _ Qh0.rd).mono ?_
    rintro e w23 ⟨vs, rfl, P3, hb⟩
    obtain ⟨R3_3, r3_3, R3_4, r3_4, R3_5, r3_5, rfl⟩ := shape_SendResult P3.rd
    try simp only [World.size_alloc] at P3
    have sz := hb.size
    try simp only [World.size_alloc] at sz
    replace KB0 := KB0.below hb
    replace P1 := P1.below hb
    replace X1 := X1.below hb
    replace XX0 := XX0.below hb
    replace X2 := X2.below hb
    replace M2 := M2.below hb
    replace Qh0 := Qh0.below hb
    replace K := btr K hb
    clear hb
    have X3 := Blk.new w23 51 #[.int .i64 z.Code, .int .i64 z.Send_Next, .int .i64 z.Send_Acked, .slice R3_3 z.Send_Seqs.length r3_3, .slice R3_4 z.Send_Items.length r3_4, .slice R3_5 z.Datas.length r3_5, .bool z.Old]
    replace KB0 := KB0.alloc (.cells #[.int .i64 z.Code, .int .i64 z.Send_Next, .int .i64 z.Send_Acked, .slice R3_3 z.Send_Seqs.length r3_3, .slice R3_4 z.Send_Items.length r3_4, .slice R3_5 z.Datas.length r3_5, .bool z.Old] 51)
    replace P1 := P1.below (bal (Below.refl _ _) (.cells #[.int .i64 z.Code, .int .i64 z.Send_Next, .int .i64 z.Send_Acked, .slice R3_3 z.Send_Seqs.length r3_3, .slice R3_4 z.Send_Items.length r3_4, .slice R3_5 z.Datas.length r3_5, .bool z.Old] 51))
    replace X1 := X1.alloc (.cells #[.int .i64 z.Code, .int .i64 z.Send_Next, .int .i64 z.Send_Acked, .slice R3_3 z.Send_Seqs.length r3_3, .slice R3_4 z.Send_Items.length r3_4, .slice R3_5 z.Datas.length r3_5, .bool z.Old] 51)
    replace XX0 := XX0.alloc (.cells #[.int .i64 z.Code, .int .i64 z.Send_Next, .int .i64 z.Send_Acked, .slice R3_3 z.Send_Seqs.length r3_3, .slice R3_4 z.Send_Items.length r3_4, .slice R3_5 z.Datas.length r3_5, .bool z.Old] 51)
    replace X2 := X2.alloc (.cells #[.int .i64 z.Code, .int .i64 z.Send_Next, .int .i64 z.Send_Acked, .slice R3_3 z.Send_Seqs.length r3_3, .slice R3_4 z.Send_Items.length r3_4, .slice R3_5 z.Datas.length r3_5, .bool z.Old] 51)
    replace M2 := M2.below (bal (Below.refl _ _) (.cells #[.int .i64 z.Code, .int .i64 z.Send_Next, .int .i64 z.Send_Acked, .slice R3_3 z.Send_Seqs.length r3_3, .slice R3_4 z.Send_Items.length r3_4, .slice R3_5 z.Datas.length r3_5, .bool z.Old] 51))
    replace Qh0 := Qh0.below (bal (Below.refl _ _) (.cells #[.int .i64 z.Code, .int .i64 z.Send_Next, .int .i64 z.Send_Acked, .slice R3_3 z.Send_Seqs.length r3_3, .slice R3_4 z.Send_Items.length r3_4, .slice R3_5 z.Datas.length r3_5, .bool z.Old] 51))
    replace P3 := P3.below (bal (Below.refl _ _) (.cells #[.int .i64 z.Code, .int .i64 z.Send_Next, .int .i64 z.Send_Acked, .slice R3_3 z.Send_Seqs.length r3_3, .slice R3_4 z.Send_Items.length r3_4, .slice R3_5 z.Datas.length r3_5, .bool z.Old] 51))
    replace K := bal K (.cells #[.int .i64 z.Code, .int .i64 z.Send_Next, .int .i64 z.Send_Acked, .slice R3_3 z.Send_Seqs.length r3_3, .slice R3_4 z.Send_Items.length r3_4, .slice R3_5 z.Datas.length r3_5, .bool z.Old] 51)
    clear Qh0
    have p0 := X3.cell 0
    have p1 := X3.cell 1
    have p2 := X3.cell 2
    have p3 := X3.cell 3
    have p4 := X3.cell 4
    have p5 := X3.cell 5
    have p6 := X3.cell 6
    simp only [List.getElem?_toArray, List.getElem?_cons_succ, List.getElem?_cons_zero] at p0 p1 p2 p3 p4 p5 p6
    have gp := X3.lt
    have q0 := X1.cell 0
    have q1 := X1.cell 1
    have q2 := X1.cell 2
    have q3 := X1.cell 3
    have q4 := X1.cell 4
    have q5 := X1.cell 5
    have q6 := X1.cell 6
    simp only [List.getElem?_toArray, List.getElem?_cons_succ, List.getElem?_cons_zero] at q0 q1 q2 q3 q4 q5 q6
    have gq := X1.lt
    go_wp2_with fail
    clear p0 p1 p2 p3 p4 p5 p6 gp
    clear q0 q1 q2 q3 q4 q5 q6 gq
    refine (eqA_SendResult z P3.rd P1.rd).mono ?_
    rintro e w24 ⟨rfl, hb⟩
    have sz := hb.size
    try simp only [World.size_alloc] at sz
    replace KB0 := KB0.below hb
    replace P1 := P1.below hb
    replace X1 := X1.below hb
    replace XX0 := XX0.below hb
    replace X2 := X2.below hb
    replace M2 := M2.below hb
    replace P3 := P3.below hb
    replace X3 := X3.below hb
    replace K := btr K hb
    clear hb
    clear P3
    clear X3
    clear P1
    clear X1
    clear kpos
    have p0 := X2.cell 0
    have p1 := X2.cell 1
    have p2 := X2.cell 2
    have p3 := X2.cell 3
    have p4 := X2.cell 4
    have p5 := X2.cell 5
    have p6 := X2.cell 6
    simp only [List.getElem?_toArray, List.getElem?_cons_succ, List.getElem?_cons_zero] at p0 p1 p2 p3 p4 p5 p6
    have gp := X2.lt
    go_wp2_with fail
    clear p0 p1 p2 p3 p4 p5 p6 gp
    refine (heldA_SendResult z (k := 1) M2.rd (by omega)).mono ?_
    rintro e w25 ⟨rfl, hb⟩
    have sz := hb.size
    try simp only [World.size_alloc] at sz
    replace KB0 := KB0.below hb
    replace XX0 := XX0.below hb
    replace X2 := X2.below hb
    replace M2 := M2.below hb
    replace K := btr K hb
    clear hb
    have kpos : ¬ (((1 + vcA z.vs : Nat) : Int) < 0) := by omega
    go_wp2
    go_ret
    exact ⟨rfl, K⟩

/-- An input that the row's conditions hold of: the witness laid as theorems of their own (inside the refine Lean does not come to an end). -/
def wit : Input := ⟨#[], #[.agg #[.int .i64 0, .int .i64 0, .slice none 0 0, .slice none 0 0], .int .i64 0, .int .i64 0, .int .i64 0], []⟩
theorem wit1 (os : Os) : (World.plainHolding Try.checked.prog os wit).variablesB Try.checked.prog = true := by kernel_rfl
theorem wit2 (os : Os) : ((World.plainHolding Try.checked.prog os wit).heap.toList.drop Try.checked.prog.globals.size).take ((begin Try.checked.prog (fun _ _ => 0) default).world.heap.size - Try.checked.prog.globals.size) =
    (begin Try.checked.prog (fun _ _ => 0) default).world.heap.toList.drop Try.checked.prog.globals.size := by kernel_rfl
theorem wit3 (os : Os) : Input.okWideB Try.checked.prog (World.plainHolding Try.checked.prog os wit) 9 ⟨#[], wit.args, []⟩ = true := by kernel_rfl
theorem wit4 (os : Os) (H : Type) (enc : TypeId × Value → H) : Rows.fnExactEmitDatasSpec.preB enc Try.checked.prog Try.f9 Rows.fnExactEmitDatasRow.domain false (World.plainHolding Try.checked.prog os wit).memory wit.args 8 = true := by kernel_rfl
theorem wit5 (os : Os) (H : Type) (enc : TypeId × Value → H) : Rows.fnExactEmitDatasSpec.sizedB enc Try.checked.prog Try.f9 false (World.plainHolding Try.checked.prog os wit).memory wit.args 8 = true := by kernel_rfl

/-! ### THE ROW's STEP: WRITTEN OUT: LEAVE IT -/
set_option maxRecDepth 100000 in
theorem lifted (os : Os) (started : os.Started) (H : Type) (enc : TypeId × Value → H) :
    ReturnsInHanded {} Try.checked os 9 .any (Rows.fnExactEmitDatasSpec.pre6 enc Try.prog Try.f9 Rows.fnExactEmitDatasRow.domain false) (Rows.fnExactEmitDatasSpec.post enc Try.prog Try.f9 false true false false) := by
  have hw := ChangeSpec.witness6 (enc := enc) (C := Try.checked) (fn := Try.f9) (s := Rows.fnExactEmitDatasSpec) (conds := Rows.fnExactEmitDatasRow.domain) (apart := false) false wit 8 (wit1 os) (wit2 os) (wit3 os) (wit4 os H enc) (wit5 os H enc)
  refine returnsInHanded_of_change (C := Try.checked) own started (by kernel_rfl) Try.func9 hw ?_
  intro W base args ds gs before hval0 hW hcnd _
  have hval : ∀ (j : Nat) t v, Try.f9.params[j]? = some t → args[j]? = some v → Value.okWide Try.prog W .any base t v := hval0
  have hW' := hW
  obtain ⟨p, q, hA0, hV, rfl, hfz, hnd⟩ := hW
  have hA : DataW.TrodAll enc Try.prog W 0 (fun _ => true) true Try.f9.params.toList args.toList ds p := hA0
  rw [Try.params9] at hA hval
  obtain ⟨v0, vs0, d0, ds0, p0, q0, hargs, rfl, rfl, h0, r0⟩ := trodAll_cons hA
  obtain ⟨v1, vs1, d1, ds1, p1, q1, rfl, rfl, rfl, h1, r1⟩ := trodAll_cons r0
  obtain ⟨v2, vs2, d2, ds2, p2, q2, rfl, rfl, rfl, h2, r2⟩ := trodAll_cons r1
  obtain ⟨v3, vs3, d3, ds3, p3, q3, rfl, rfl, rfl, h3, r3⟩ := trodAll_cons r2
  obtain ⟨rfl, rfl, rfl⟩ := trodAll_nil r3
  obtain rfl : args = #[v0, v1, v2, v3] := by cases args; simp_all
  obtain ⟨rfl, rfl⟩ := trodVars_none hV
  obtain ⟨cells0, rfl, hsz0⟩ := okWide_struct Try.underlying73 (hval 0 73 v0 rfl rfl)
  have k0 := h0
  have lt0 : ∀ x ∈ p0, x.block < W.heap.size := by obtain ⟨m, hm⟩ := k0; exact DataW.trod_lt m _ _ _ hm
  obtain ⟨y0, A0_2, c0_2, A0_3, c0_3, rfl, wr0, wf0⟩ := opened_Send h0
  have w0 := And.intro wr0 wf0
  have k1 := h1
  have lt1 : ∀ x ∈ p1, x.block < W.heap.size := by obtain ⟨m, hm⟩ := k1; exact DataW.trod_lt m _ _ _ hm
  obtain ⟨j1, rfl⟩ := okWide_int Try.underlying2 (hval 1 2 v1 rfl rfl)
  have w1 : WfV (.int j1) := by
    obtain ⟨fuel, hf⟩ := h1
    obtain ⟨n0, e0, _, wf0⟩ := DataW.trod_int Try.underlying2 hf
    obtain rfl : j1 = n0 := by simpa [Value.cells] using e0
    exact wf_int wf0
  have k2 := h2
  have lt2 : ∀ x ∈ p2, x.block < W.heap.size := by obtain ⟨m, hm⟩ := k2; exact DataW.trod_lt m _ _ _ hm
  obtain ⟨j2, rfl⟩ := okWide_int Try.underlying2 (hval 2 2 v2 rfl rfl)
  have w2 : WfV (.int j2) := by
    obtain ⟨fuel, hf⟩ := h2
    obtain ⟨n0, e0, _, wf0⟩ := DataW.trod_int Try.underlying2 hf
    obtain rfl : j2 = n0 := by simpa [Value.cells] using e0
    exact wf_int wf0
  have k3 := h3
  have lt3 : ∀ x ∈ p3, x.block < W.heap.size := by obtain ⟨m, hm⟩ := k3; exact DataW.trod_lt m _ _ _ hm
  obtain ⟨j3, rfl⟩ := okWide_int Try.underlying2 (hval 3 2 v3 rfl rfl)
  have w3 : WfV (.int j3) := by
    obtain ⟨fuel, hf⟩ := h3
    obtain ⟨n0, e0, _, wf0⟩ := DataW.trod_int Try.underlying2 hf
    obtain rfl : j3 = n0 := by simpa [Value.cells] using e0
    exact wf_int wf0
  clear hA0 hval0
  refine (walk y0 A0_2 c0_2 A0_3 c0_3 j1 j2 j3 W w0 w1 w2 w3).mono fun e W' ⟨he, bel⟩ => ?_
  subst he
  exact ⟨_, rfl, _, _, _, [], _, [], hW', trodAll_mk1 (shut_bool Try.underlying4 _), (trodAll_cons_mk (Below.trod laidOut (by kernel_rfl) (of_decide_eq_true (by kernel_rfl)) k0 bel lt0) (trodAll_cons_mk (Below.trod laidOut (by kernel_rfl) (of_decide_eq_true (by kernel_rfl)) k1 bel lt1) (trodAll_cons_mk (Below.trod laidOut (by kernel_rfl) (of_decide_eq_true (by kernel_rfl)) k2 bel lt2) (trodAll_cons_mk (Below.trod laidOut (by kernel_rfl) (of_decide_eq_true (by kernel_rfl)) k3 bel lt3) trodAll_mk0)))), rfl, bel.frame _, fun h => by cases h⟩

theorem over : Rows.fnExactEmitDatasRow.holds Try.pinned (OpenSpec.ofChange Rows.fnExactEmitDatasSpec) :=
  OpenClaim.holds_of_wide 9 Try.f9 rfl rfl rfl rfl rfl rfl rfl ⟨rfl, rfl, rfl, rfl, rfl⟩ rfl rfl rfl rfl rfl (by kernel_rfl) Try.func9 (by kernel_rfl)
    (of_decide_eq_true (by kernel_rfl)) (by unfold Func.isWrapper; first | (rw [if_pos (by decide +kernel)]; kernel_rfl) | (rw [if_neg (by decide +kernel)]; exact ⟨rfl, rfl⟩))
    (fun os started H enc _ => lifted os started H enc)

/-- ████ THE STATEMENT ████ -/
theorem proved : Rows.FnExactEmitDatasSaid := over
#print axioms proved
end Go.Proofs.Ythljdikcpdokdaa.fnExactEmitDatas
