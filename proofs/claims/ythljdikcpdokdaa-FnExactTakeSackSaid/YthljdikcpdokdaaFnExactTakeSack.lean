/- At every sender and every sack the program's TakeSack answers as its model does, in memory of its own, it leaves its arguments as they were, and the law FnExactTakeSack answers true. -/
import Derived.Test.YthljdikcpdokdaaRows
import Derived.Test.YthljdikcpdokdaaS10KJ
import Derived.Test.YthljdikcpdokdaaNa5
import Derived.Test.YthljdikcpdokdaaNa7
import Derived.Test.YthljdikcpdokdaaFnExactTakeSackR
import Derived.Test.YthljdikcpdokdaaFnExactTakeSackC
import Derived.WalkSpells
import Derived.WalkLawsBesides
import Derived.WalkKit
import Derived.ProofKit
import Derived.OpenShut
import Derived.ShutString
import Derived.ChangeOld
import Derived.Below
namespace Go.Proofs.Ythljdikcpdokdaa.fnExactTakeSack
open Go.ChangeShapes Go.WideShapes Go.ChangeAt Go.RowKit
open Go.ChangeMaps (open_string shut_string)
set_option linter.unusedVariables false

theorem own : ownKnob Try.prog.godebug = none := by kernel_rfl
theorem laidOut : laidOutB Try.prog = true := by kernel_rfl

/-- WHAT THE WALK IS TOLD OF A SLICE OF INTEGERS THAT CAME IN: it is nil; or it leads to a row of 'cap' cells, the numbers 'zs' (the first 'len' are its elements, the rest its spare room), each fitting its kind. -/
def IsRow (k : IntKind) (w : World) (a : Option Addr) (len cap : Nat) (zs : List Int) : Prop :=
  (a = none ∧ len = 0 ∧ cap = 0 ∧ zs = []) ∨
  ∃ x, a = some x ∧ len ≤ cap ∧ cap ≤ maxLen ∧ zs.length = cap ∧ (∀ i, i < zs.length → w.cell? (x.add i) = some (.int k (zs.getD i 0))) ∧ ∀ n ∈ zs, (Lit.int k n).wf = true


set_option maxRecDepth 100000 in
set_option maxHeartbeats 4000000 in
theorem walk (y0 : SendM) (A0_2 : Option Addr) (c0_2 : Nat) (A0_3 : Option Addr) (c0_3 : Nat) (y1 : SackM) (A1_1 : Option Addr) (c1_1 : Nat) (w : World) (w0 : RdA w y0.vs [.int .i64 y0.Next, .int .i64 y0.Acked, .slice A0_2 y0.Seqs.length c0_2, .slice A0_3 y0.Items.length c0_3] ∧ WfA y0.vs) (w1 : RdA w y1.vs [.int .i64 y1.Cum, .slice A1_1 y1.Gaps.length c1_1] ∧ WfA y1.vs) :
    Calls Try.prog 10 #[.agg #[.int .i64 y0.Next, .int .i64 y0.Acked, .slice A0_2 y0.Seqs.length c0_2, .slice A0_3 y0.Items.length c0_3], .agg #[.int .i64 y1.Cum, .slice A1_1 y1.Gaps.length c1_1]] w fun e w' => e = .returned (.bool true) ∧ Below w.heap.size w w' := by
  obtain ⟨hr0, hwf0⟩ := w0
  obtain ⟨hr1, hwf1⟩ := w1
  have K : Below w.heap.size w w := Below.refl _ _
  have KB0 := Blk.new w 73 #[.int .i64 y0.Next, .int .i64 y0.Acked, .slice A0_2 y0.Seqs.length c0_2, .slice A0_3 y0.Items.length c0_3]
  replace K := bal K (.cells #[.int .i64 y0.Next, .int .i64 y0.Acked, .slice A0_2 y0.Seqs.length c0_2, .slice A0_3 y0.Items.length c0_3] 73)
  have KB1 := Blk.new (w.alloc (.cells #[.int .i64 y0.Next, .int .i64 y0.Acked, .slice A0_2 y0.Seqs.length c0_2, .slice A0_3 y0.Items.length c0_3] 73)) 91 #[.int .i64 y1.Cum, .slice A1_1 y1.Gaps.length c1_1]
  replace KB0 := KB0.alloc (.cells #[.int .i64 y1.Cum, .slice A1_1 y1.Gaps.length c1_1] 91)
  replace K := bal K (.cells #[.int .i64 y1.Cum, .slice A1_1 y1.Gaps.length c1_1] 91)
  obtain ⟨w10, hw1⟩ : ∃ w10, ((w.alloc (.cells #[.int .i64 y0.Next, .int .i64 y0.Acked, .slice A0_2 y0.Seqs.length c0_2, .slice A0_3 y0.Items.length c0_3] 73)).alloc (.cells #[.int .i64 y1.Cum, .slice A1_1 y1.Gaps.length c1_1] 91)) = w10 := ⟨_, rfl⟩
  rw [hw1] at K KB0 KB1
  have HW1 := hidH hw1
  clear hw1
  have hKB0 := KB0.lt
  simp only [World.size_alloc] at KB1
  have hKB1 := KB1.lt
  have KK := hidH K
  clear KK
  have HRD0 := hidH (fun (u : World) (h : Below w.heap.size w u) => RdA.below h hr0)
  have HWF0 := hidH hwf0
  have HRD1 := hidH (fun (u : World) (h : Below w.heap.size w u) => RdA.below h hr1)
  have HWF1 := hidH hwf1
  clear hr0 hwf0 hr1 hwf1
  go_enter Try.func10, Try.ntmps10
  go_wp2_with fail
  rw [HW1.out]
  refine (szA_Send y0 (left := 1048576) (HRD0.out _ K) (by omega) (by omega)).mono ?_
  rintro e w11 ⟨z0, rfl, hz0, hb⟩
  have sz := hb.size
  try simp only [World.size_alloc] at sz
  replace KB0 := KB0.below hb
  replace KB1 := KB1.below hb
  replace K := btr K hb
  clear hb
  have HZ0 := hidH hz0
  clear hz0
  by_cases h0 : z0 < 0
  · go_wp2
    go_ret
    exact ⟨rfl, K⟩
  · have ht0 : tot.totL y0.vs ≤ 1048576 := by have := HZ0.out.2.2 (by omega); omega
    have hzp0 : 0 ≤ z0 := by omega
    have hzl0 : z0 ≤ 1048576 := by have := HZ0.out.2.1; omega
    clear h0
    have p0 := KB1.cell 0
    have p1 := KB1.cell 1
    simp only [List.getElem?_toArray, List.getElem?_cons_succ, List.getElem?_cons_zero] at p0 p1
    have gp := KB1.lt
    go_wp2_with fail
    clear p0 p1 gp
    refine (szA_Sack y1 (left := z0) (HRD1.out _ K) (by omega) (by omega)).mono ?_
    rintro e w12 ⟨z1, rfl, hz1, hb⟩
    have sz := hb.size
    try simp only [World.size_alloc] at sz
    replace KB0 := KB0.below hb
    replace KB1 := KB1.below hb
    replace K := btr K hb
    clear hb
    have HZ1 := hidH hz1
    clear hz1
    by_cases h0 : z1 < 0
    · go_wp2
      go_ret
      exact ⟨rfl, K⟩
    · have ht1 : tot.totL y1.vs ≤ 1048576 := by have := HZ1.out.2.2 (by omega); omega
      have hzp1 : 0 ≤ z1 := by omega
      have hzl1 : z1 ≤ 1048576 := by have := HZ1.out.2.1; omega
      clear h0
      have hlen := tsR_len y0 y1 HWF0.out ht0 HWF1.out ht1
      have hcn0 : vcA y0.vs ≤ 1000000000 := cnt_Send y0 ht0
      have hcn1 : vcA y1.vs ≤ 1000000000 := cnt_Sack y1 ht1
      have TO0 := hidH (fun (u : World) (h : Below w.heap.size w u) => toA_Send y0 (HRD0.out u h) ht0)
      have TO1 := hidH (fun (u : World) (h : Below w.heap.size w u) => toA_Sack y1 (HRD1.out u h) ht1)
      have SP := hidH (fun (u : World) (v0 : List Value) (v1 : List Value) (h0 : RdA u y0.vs v0) (h1 : RdA u y1.vs v1) => ts_spec y0 v0 y1 v1 u h0 HWF0.out ht0 h1 HWF1.out ht1)
      have IM := hidH (fun (u : World) (v0 : List Value) (v1 : List Value) (h0 : RdA u y0.vs v0) (h1 : RdA u y1.vs v1) => ts_impl y0 v0 y1 v1 u h0 HWF0.out ht0 h1 HWF1.out ht1)
      obtain ⟨z, hz⟩ : ∃ z, tsR y0 y1 = z := ⟨_, rfl⟩
      rw [hz] at SP IM hlen
      clear hz ht0 ht1
      clear HZ0 HZ1
      go_wp2_with fail
      refine wp_region_any (by kernel_rfl) ?_
      refine regFnExactTakeSacka _ _ _ _ _ _ _ _ _ _ _ _ _ _ _ _ _ _ _ _ _ w12 _ _ y0 y1 _ _ _ _ _ _ z (fun u h => TO0.out u (btr K h)) (fun u h => TO1.out u (btr K h)) (fun u v0 v1 h0 h1 => SP.out u v0 v1 h0 h1) (by kernel_rfl) (by kernel_rfl) (by kernel_rfl) rfl (fun h => by cases h) (fun h => by cases h) ⟨KB0.lt, KB0.below (Below.refl _ _).drew⟩ ⟨KB1.lt, KB1.below (Below.refl _ _).drew⟩ ((Below.refl _ _).drew) ?_
      intros
      rename_i w13 hb hX
      obtain ⟨gx1, lo1, hi1, R1_3, r1_3, R1_4, r1_4, R1_5, r1_5, rfl, X1, P1, hlo1, hhi1⟩ := hX
      have sz := hb.size
      try simp only [World.size_alloc] at sz
      replace KB0 := KB0.below hb
      replace KB1 := KB1.below hb
      replace K := btr K hb
      clear hb
      replace P1 := P1.mono hlo1 hhi1 (Nat.le_refl _)
      have hgX1 := X1.lt
      clear hlo1 hhi1
      have p0 := KB0.cell 0
      have p1 := KB0.cell 1
      have p2 := KB0.cell 2
      have p3 := KB0.cell 3
      simp only [List.getElem?_toArray, List.getElem?_cons_succ, List.getElem?_cons_zero] at p0 p1 p2 p3
      have gp := KB0.lt
      go_wp2_with fail
      clear p0 p1 p2 p3 gp
      refine (TO0.out _ K).mono ?_
      rintro e w14 ⟨vs, rfl, Qx0, hb⟩
      obtain ⟨Ex0_2, ex0_2, Ex0_3, ex0_3, rfl⟩ := shape_Send Qx0.rd
      try simp only [World.size_alloc] at Qx0
      have sz := hb.size
      try simp only [World.size_alloc] at sz
      replace KB0 := KB0.below hb
      replace KB1 := KB1.below hb
      replace P1 := P1.below hb
      replace X1 := X1.below hb
      replace K := btr K hb
      clear hb
      have XX0 := Blk.new w14 47 #[.int .i64 y0.Next, .int .i64 y0.Acked, .slice Ex0_2 y0.Seqs.length ex0_2, .slice Ex0_3 y0.Items.length ex0_3]
      replace KB0 := KB0.alloc (.cells #[.int .i64 y0.Next, .int .i64 y0.Acked, .slice Ex0_2 y0.Seqs.length ex0_2, .slice Ex0_3 y0.Items.length ex0_3] 47)
      replace KB1 := KB1.alloc (.cells #[.int .i64 y0.Next, .int .i64 y0.Acked, .slice Ex0_2 y0.Seqs.length ex0_2, .slice Ex0_3 y0.Items.length ex0_3] 47)
      replace P1 := P1.below (bal (Below.refl _ _) (.cells #[.int .i64 y0.Next, .int .i64 y0.Acked, .slice Ex0_2 y0.Seqs.length ex0_2, .slice Ex0_3 y0.Items.length ex0_3] 47))
      replace X1 := X1.alloc (.cells #[.int .i64 y0.Next, .int .i64 y0.Acked, .slice Ex0_2 y0.Seqs.length ex0_2, .slice Ex0_3 y0.Items.length ex0_3] 47)
      replace Qx0 := Qx0.below (bal (Below.refl _ _) (.cells #[.int .i64 y0.Next, .int .i64 y0.Acked, .slice Ex0_2 y0.Seqs.length ex0_2, .slice Ex0_3 y0.Items.length ex0_3] 47))
      replace K := bal K (.cells #[.int .i64 y0.Next, .int .i64 y0.Acked, .slice Ex0_2 y0.Seqs.length ex0_2, .slice Ex0_3 y0.Items.length ex0_3] 47)
      have p0 := KB1.cell 0
      have p1 := KB1.cell 1
      simp only [List.getElem?_toArray, List.getElem?_cons_succ, List.getElem?_cons_zero] at p0 p1
      have gp := KB1.lt
      go_wp2_with fail
      clear p0 p1 gp
      refine (TO1.out _ K).mono ?_
      rintro e w15 ⟨vs, rfl, Qx1, hb⟩
      obtain ⟨Ex1_1, ex1_1, rfl⟩ := shape_Sack Qx1.rd
      try simp only [World.size_alloc] at Qx1
      have sz := hb.size
      try simp only [World.size_alloc] at sz
      replace KB0 := KB0.below hb
      replace KB1 := KB1.below hb
      replace P1 := P1.below hb
      replace X1 := X1.below hb
      replace Qx0 := Qx0.below hb
      replace XX0 := XX0.below hb
      replace K := btr K hb
      clear hb
      have XX1 := Blk.new w15 31 #[.int .i64 y1.Cum, .slice Ex1_1 y1.Gaps.length ex1_1]
      replace KB0 := KB0.alloc (.cells #[.int .i64 y1.Cum, .slice Ex1_1 y1.Gaps.length ex1_1] 31)
      replace KB1 := KB1.alloc (.cells #[.int .i64 y1.Cum, .slice Ex1_1 y1.Gaps.length ex1_1] 31)
      replace P1 := P1.below (bal (Below.refl _ _) (.cells #[.int .i64 y1.Cum, .slice Ex1_1 y1.Gaps.length ex1_1] 31))
      replace X1 := X1.alloc (.cells #[.int .i64 y1.Cum, .slice Ex1_1 y1.Gaps.length ex1_1] 31)
      replace Qx0 := Qx0.below (bal (Below.refl _ _) (.cells #[.int .i64 y1.Cum, .slice Ex1_1 y1.Gaps.length ex1_1] 31))
      replace XX0 := XX0.alloc (.cells #[.int .i64 y1.Cum, .slice Ex1_1 y1.Gaps.length ex1_1] 31)
      replace Qx1 := Qx1.below (bal (Below.refl _ _) (.cells #[.int .i64 y1.Cum, .slice Ex1_1 y1.Gaps.length ex1_1] 31))
      replace K := bal K (.cells #[.int .i64 y1.Cum, .slice Ex1_1 y1.Gaps.length ex1_1] 31)
      have b00 := XX0.cell 0
      have b01 := XX0.cell 1
      have b02 := XX0.cell 2
      have b03 := XX0.cell 3
      simp only [List.getElem?_toArray, List.getElem?_cons_succ, List.getElem?_cons_zero] at b00 b01 b02 b03
      have gb0 := XX0.lt
      have b10 := XX1.cell 0
      have b11 := XX1.cell 1
      simp only [List.getElem?_toArray, List.getElem?_cons_succ, List.getElem?_cons_zero] at b10 b11
      have gb1 := XX1.lt
      go_wp2_with fail
      clear b00 b01 b02 b03 gb0
      clear b10 b11 gb1
      refine (IM.out _ _ _ Qx0.rd Qx1.rd).mono ?_
      rintro e w16 ⟨vs, rfl, P2, hb⟩
      obtain ⟨R2_3, r2_3, R2_4, r2_4, R2_5, r2_5, rfl⟩ := shape_SendResult P2.rd
      try simp only [World.size_alloc] at P2
      have sz := hb.size
      try simp only [World.size_alloc] at sz
      replace KB0 := KB0.below hb
      replace KB1 := KB1.below hb
      replace P1 := P1.below hb
      replace X1 := X1.below hb
      replace Qx0 := Qx0.below hb
      replace XX0 := XX0.below hb
      replace Qx1 := Qx1.below hb
      replace XX1 := XX1.below hb
      replace K := btr K hb
      clear hb
      have X2 := Blk.new w16 51 #[.int .i64 z.Code, .int .i64 z.Send_Next, .int .i64 z.Send_Acked, .slice R2_3 z.Send_Seqs.length r2_3, .slice R2_4 z.Send_Items.length r2_4, .slice R2_5 z.Datas.length r2_5, .bool z.Old]
      replace KB0 := KB0.alloc (.cells #[.int .i64 z.Code, .int .i64 z.Send_Next, .int .i64 z.Send_Acked, .slice R2_3 z.Send_Seqs.length r2_3, .slice R2_4 z.Send_Items.length r2_4, .slice R2_5 z.Datas.length r2_5, .bool z.Old] 51)
      replace KB1 := KB1.alloc (.cells #[.int .i64 z.Code, .int .i64 z.Send_Next, .int .i64 z.Send_Acked, .slice R2_3 z.Send_Seqs.length r2_3, .slice R2_4 z.Send_Items.length r2_4, .slice R2_5 z.Datas.length r2_5, .bool z.Old] 51)
      replace P1 := P1.below (bal (Below.refl _ _) (.cells #[.int .i64 z.Code, .int .i64 z.Send_Next, .int .i64 z.Send_Acked, .slice R2_3 z.Send_Seqs.length r2_3, .slice R2_4 z.Send_Items.length r2_4, .slice R2_5 z.Datas.length r2_5, .bool z.Old] 51))
      replace X1 := X1.alloc (.cells #[.int .i64 z.Code, .int .i64 z.Send_Next, .int .i64 z.Send_Acked, .slice R2_3 z.Send_Seqs.length r2_3, .slice R2_4 z.Send_Items.length r2_4, .slice R2_5 z.Datas.length r2_5, .bool z.Old] 51)
      replace Qx0 := Qx0.below (bal (Below.refl _ _) (.cells #[.int .i64 z.Code, .int .i64 z.Send_Next, .int .i64 z.Send_Acked, .slice R2_3 z.Send_Seqs.length r2_3, .slice R2_4 z.Send_Items.length r2_4, .slice R2_5 z.Datas.length r2_5, .bool z.Old] 51))
      replace XX0 := XX0.alloc (.cells #[.int .i64 z.Code, .int .i64 z.Send_Next, .int .i64 z.Send_Acked, .slice R2_3 z.Send_Seqs.length r2_3, .slice R2_4 z.Send_Items.length r2_4, .slice R2_5 z.Datas.length r2_5, .bool z.Old] 51)
      replace Qx1 := Qx1.below (bal (Below.refl _ _) (.cells #[.int .i64 z.Code, .int .i64 z.Send_Next, .int .i64 z.Send_Acked, .slice R2_3 z.Send_Seqs.length r2_3, .slice R2_4 z.Send_Items.length r2_4, .slice R2_5 z.Datas.length r2_5, .bool z.Old] 51))
      replace XX1 := XX1.alloc (.cells #[.int .i64 z.Code, .int .i64 z.Send_Next, .int .i64 z.Send_Acked, .slice R2_3 z.Send_Seqs.length r2_3, .slice R2_4 z.Send_Items.length r2_4, .slice R2_5 z.Datas.length r2_5, .bool z.Old] 51)
      replace P2 := P2.below (bal (Below.refl _ _) (.cells #[.int .i64 z.Code, .int .i64 z.Send_Next, .int .i64 z.Send_Acked, .slice R2_3 z.Send_Seqs.length r2_3, .slice R2_4 z.Send_Items.length r2_4, .slice R2_5 z.Datas.length r2_5, .bool z.Old] 51))
      replace K := bal K (.cells #[.int .i64 z.Code, .int .i64 z.Send_Next, .int .i64 z.Send_Acked, .slice R2_3 z.Send_Seqs.length r2_3, .slice R2_4 z.Send_Items.length r2_4, .slice R2_5 z.Datas.length r2_5, .bool z.Old] 51)
      have p0 := X2.cell 0
      have p1 := X2.cell 1
      have p2 := X2.cell 2
      have p3 := X2.cell 3
      have p4 := X2.cell 4
      have p5 := X2.cell 5
      have p6 := X2.cell 6
      simp only [List.getElem?_toArray, List.getElem?_cons_succ, List.getElem?_cons_zero] at p0 p1 p2 p3 p4 p5 p6
      have gp := X2.lt
      have q0 := X1.cell 0
      have q1 := X1.cell 1
      have q2 := X1.cell 2
      have q3 := X1.cell 3
      have q4 := X1.cell 4
      have q5 := X1.cell 5
      have q6 := X1.cell 6
      simp only [List.getElem?_toArray, List.getElem?_cons_succ, List.getElem?_cons_zero] at q0 q1 q2 q3 q4 q5 q6
      have gq := X1.lt
      go_wp2_with fail
      clear p0 p1 p2 p3 p4 p5 p6 gp
      clear q0 q1 q2 q3 q4 q5 q6 gq
      refine (eqA_SendResult z P2.rd P1.rd).mono ?_
      rintro e w17 ⟨rfl, hb⟩
      have sz := hb.size
      try simp only [World.size_alloc] at sz
      replace KB0 := KB0.below hb
      replace KB1 := KB1.below hb
      replace P1 := P1.below hb
      replace X1 := X1.below hb
      replace Qx0 := Qx0.below hb
      replace XX0 := XX0.below hb
      replace Qx1 := Qx1.below hb
      replace XX1 := XX1.below hb
      replace P2 := P2.below hb
      replace X2 := X2.below hb
      replace K := btr K hb
      clear hb
      go_wp2_with fail
      refine wp_region_any (by kernel_rfl) ?_
      refine regFnExactTakeSack_0 _ _ _ _ _ _ _ _ _ _ _ _ _ _ _ _ _ _ _ _ _ _ _ _ _ _ _ _ _ _ _ _ _ _ _ _ _ _ w17 _ _ y0 _ _ _ _ _ _ _ _ (fun u h => TO0.out u (btr K h)) (fun u vs h k => eqA_Send y0 (RdA.below h Qx0.rd) k) (by kernel_rfl) (by kernel_rfl) (by kernel_rfl) rfl (KB0.below (Below.refl _ _).drew) (XX0.below (Below.refl _ _).drew) ((Below.refl _ _).drew) (Below.refl _ _) ?_
      intros
      rename_i w18 m1 m2 m3 hb
      clear m1 m2 m3
      replace hb := (Below.refl _ _).drew.trans hb
      have sz := hb.size
      try simp only [World.size_alloc] at sz
      replace KB0 := KB0.below hb
      replace KB1 := KB1.below hb
      replace P1 := P1.below hb
      replace X1 := X1.below hb
      replace Qx0 := Qx0.below hb
      replace XX0 := XX0.below hb
      replace Qx1 := Qx1.below hb
      replace XX1 := XX1.below hb
      replace P2 := P2.below hb
      replace X2 := X2.below hb
      replace K := btr K hb
      clear hb
      go_wp2_with fail
      refine wp_region_any (by kernel_rfl) ?_
      refine regFnExactTakeSack_1 _ _ _ _ _ _ _ _ _ _ _ _ _ _ _ _ _ _ _ _ _ _ _ _ _ _ _ _ _ _ _ _ _ _ _ _ _ _ _ _ _ _ _ w18 _ _ y1 _ _ _ _ (fun u h => TO1.out u (btr K h)) (fun u vs h k => eqA_Sack y1 (RdA.below h Qx1.rd) k) (by kernel_rfl) (by kernel_rfl) (by kernel_rfl) rfl (KB1.below (Below.refl _ _).drew) (XX1.below (Below.refl _ _).drew) ((Below.refl _ _).drew) (Below.refl _ _) ?_
      intros
      rename_i w19 m1 m2 m3 hb
      clear m1 m2 m3
      replace hb := (Below.refl _ _).drew.trans hb
      have sz := hb.size
      try simp only [World.size_alloc] at sz
      replace KB0 := KB0.below hb
      replace KB1 := KB1.below hb
      replace P1 := P1.below hb
      replace X1 := X1.below hb
      replace Qx0 := Qx0.below hb
      replace XX0 := XX0.below hb
      replace Qx1 := Qx1.below hb
      replace XX1 := XX1.below hb
      replace P2 := P2.below hb
      replace X2 := X2.below hb
      replace K := btr K hb
      clear hb
      have p0 := XX0.cell 0
      have p1 := XX0.cell 1
      have p2 := XX0.cell 2
      have p3 := XX0.cell 3
      simp only [List.getElem?_toArray, List.getElem?_cons_succ, List.getElem?_cons_zero] at p0 p1 p2 p3
      have gp := XX0.lt
      go_wp2_with fail
      clear p0 p1 p2 p3 gp
      refine (markA_Send y0 (S := Wn _ _) (k := 1) (Wn.sub (Nat.zero_le _) Qx0.1) Qx0.2 (by omega)).mono ?_
      rintro e w20 ⟨rfl, hc, _⟩
      have W := hc.win (fun _ _ h => h)
      clear hc
      have sz := W.size
      replace KB0 := Blk.win2 KB0 W (.inl (by omega))
      replace KB1 := Blk.win2 KB1 W (.inl (by omega))
      replace P1 := P1.win W (.inl (by omega))
      replace X1 := Blk.win2 X1 W (.inl (by omega))
      replace XX0 := Blk.win2 XX0 W (.inr (by omega))
      replace Qx1 := Qx1.win W (.inr (by omega))
      replace XX1 := Blk.win2 XX1 W (.inr (by omega))
      replace P2 := P2.win W (.inr (by omega))
      replace X2 := Blk.win2 X2 W (.inr (by omega))
      replace K := K.trans ((W.below (by omega)).mono (by omega))
      clear W
      clear Qx0
      have p0 := XX1.cell 0
      have p1 := XX1.cell 1
      simp only [List.getElem?_toArray, List.getElem?_cons_succ, List.getElem?_cons_zero] at p0 p1
      have gp := XX1.lt
      go_wp2_with fail
      clear p0 p1 gp
      refine (markA_Sack y1 (S := Wn _ _) (k := 1 + vcA y0.vs) (Wn.sub (Nat.zero_le _) Qx1.1) Qx1.2 (by omega)).mono ?_
      rintro e w21 ⟨rfl, hc, _⟩
      have W := hc.win (fun _ _ h => h)
      clear hc
      have sz := W.size
      replace KB0 := Blk.win2 KB0 W (.inl (by omega))
      replace KB1 := Blk.win2 KB1 W (.inl (by omega))
      replace P1 := P1.win W (.inl (by omega))
      replace X1 := Blk.win2 X1 W (.inl (by omega))
      replace XX0 := Blk.win2 XX0 W (.inl (by omega))
      replace XX1 := Blk.win2 XX1 W (.inr (by omega))
      replace P2 := P2.win W (.inr (by omega))
      replace X2 := Blk.win2 X2 W (.inr (by omega))
      replace K := K.trans ((W.below (by omega)).mono (by omega))
      clear W
      clear Qx1
      have kpos : ¬ (((1 + vcA y0.vs + vcA y1.vs : Nat) : Int) < 0) := by omega
      have p0 := X2.cell 0
      have p1 := X2.cell 1
      have p2 := X2.cell 2
      have p3 := X2.cell 3
      have p4 := X2.cell 4
      have p5 := X2.cell 5
      have p6 := X2.cell 6
      simp only [List.getElem?_toArray, List.getElem?_cons_succ, List.getElem?_cons_zero] at p0 p1 p2 p3 p4 p5 p6
      have gp := X2.lt
      have q0 := X1.cell 0
      have q1 := X1.cell 1
      have q2 := X1.cell 2
      have q3 := X1.cell 3
      have q4 := X1.cell 4
      have q5 := X1.cell 5
      have q6 := X1.cell 6
      simp only [List.getElem?_toArray, List.getElem?_cons_succ, List.getElem?_cons_zero] at q0 q1 q2 q3 q4 q5 q6
      have gq := X1.lt
      go_wp2_with fail
      clear p0 p1 p2 p3 p4 p5 p6 gp
      clear q0 q1 q2 q3 q4 q5 q6 gq
      refine (eqA_SendResult z P2.rd P1.rd).mono ?_
      rintro e w22 ⟨rfl, hb⟩
      have sz := hb.size
      try simp only [World.size_alloc] at sz
      replace KB0 := KB0.below hb
      replace KB1 := KB1.below hb
      replace P1 := P1.below hb
      replace X1 := X1.below hb
      replace XX0 := XX0.below hb
      replace XX1 := XX1.below hb
      replace P2 := P2.below hb
      replace X2 := X2.below hb
      replace K := btr K hb
      clear hb
      clear kpos
      have p0 := X2.cell 0
      have p1 := X2.cell 1
      have p2 := X2.cell 2
      have p3 := X2.cell 3
      have p4 := X2.cell 4
      have p5 := X2.cell 5
      have p6 := X2.cell 6
      simp only [List.getElem?_toArray, List.getElem?_cons_succ, List.getElem?_cons_zero] at p0 p1 p2 p3 p4 p5 p6
      have gp := X2.lt
      go_wp2_with fail
      clear p0 p1 p2 p3 p4 p5 p6 gp
      refine (markA_SendResult z (S := Wn _ _) (k := 1) (Wn.sub (Nat.zero_le _) P2.1) P2.2 (by omega)).mono ?_
      rintro e w23 ⟨rfl, hc, ho⟩
      have W := hc.win (fun _ _ h => h)
      have M2 := And.intro (Nat.le_trans P2.1 hc.size) ho
      replace M2 : OwN _ _ _ _ _ := M2
      clear hc ho
      have sz := W.size
      replace KB0 := Blk.win2 KB0 W (.inl (by omega))
      replace KB1 := Blk.win2 KB1 W (.inl (by omega))
      replace P1 := P1.win W (.inl (by omega))
      replace X1 := Blk.win2 X1 W (.inl (by omega))
      replace XX0 := Blk.win2 XX0 W (.inl (by omega))
      replace XX1 := Blk.win2 XX1 W (.inl (by omega))
      replace X2 := Blk.win2 X2 W (.inr (by omega))
      replace K := K.trans ((W.below (by omega)).mono (by omega))
      clear W
      clear P2
      have p0 := X2.cell 0
      have p1 := X2.cell 1
      have p2 := X2.cell 2
      have p3 := X2.cell 3
      have p4 := X2.cell 4
      have p5 := X2.cell 5
      have p6 := X2.cell 6
      simp only [List.getElem?_toArray, List.getElem?_cons_succ, List.getElem?_cons_zero] at p0 p1 p2 p3 p4 p5 p6
      have gp := X2.lt
      go_wp2_with fail
      clear p0 p1 p2 p3 p4 p5 p6 gp
      refine (heldA_SendResult z (k := 1) M2.rd (by omega)).mono ?_
      rintro e w24 ⟨rfl, hb⟩
      have sz := hb.size
      try simp only [World.size_alloc] at sz
      replace KB0 := KB0.below hb
      replace KB1 := KB1.below hb
      replace P1 := P1.below hb
      replace X1 := X1.below hb
      replace XX0 := XX0.below hb
      replace XX1 := XX1.below hb
      replace X2 := X2.below hb
      replace M2 := M2.below hb
      replace K := btr K hb
      clear hb
      have kpos : ¬ (((1 + vcA z.vs : Nat) : Int) < 0) := by omega
      go_wp2_with fail
      refine wp_region_any (by kernel_rfl) ?_
      refine regFnExactTakeSackb _ _ _ _ _ _ _ _ _ _ _ _ _ _ _ _ _ _ _ _ _ _ _ _ _ _ _ _ _ _ _ _ _ _ _ _ _ _ _ _ _ _ _ _ _ _ _ _ _ _ _ _ _ _ _ _ _ _ _ _ _ _ _ _ _ _ _ _ _ _ _ _ w24 _ _ y0 y1 _ _ _ _ _ _ z (fun u h => TO0.out u (btr K h)) (fun u h => TO1.out u (btr K h)) (fun u v0 v1 h0 h1 => IM.out u v0 v1 h0 h1) (by kernel_rfl) (by kernel_rfl) (by kernel_rfl) rfl (fun h => by cases h) (fun h => by cases h) ⟨KB0.lt, KB0.below (Below.refl _ _).drew⟩ ⟨KB1.lt, KB1.below (Below.refl _ _).drew⟩ ((Below.refl _ _).drew) ?_
      intros
      rename_i w25 hb hX
      obtain ⟨gx3, lo3, hi3, R3_3, r3_3, R3_4, r3_4, R3_5, r3_5, rfl, X3, P3, hlo3, hhi3⟩ := hX
      have sz := hb.size
      try simp only [World.size_alloc] at sz
      replace KB0 := KB0.below hb
      replace KB1 := KB1.below hb
      replace P1 := P1.below hb
      replace X1 := X1.below hb
      replace XX0 := XX0.below hb
      replace XX1 := XX1.below hb
      replace X2 := X2.below hb
      replace M2 := M2.below hb
      replace K := btr K hb
      clear hb
      replace P3 := P3.mono hlo3 hhi3 (Nat.le_refl _)
      have hgX3 := X3.lt
      clear hlo3 hhi3
      have p0 := X3.cell 0
      have p1 := X3.cell 1
      have p2 := X3.cell 2
      have p3 := X3.cell 3
      have p4 := X3.cell 4
      have p5 := X3.cell 5
      have p6 := X3.cell 6
      simp only [List.getElem?_toArray, List.getElem?_cons_succ, List.getElem?_cons_zero] at p0 p1 p2 p3 p4 p5 p6
      have gp := X3.lt
      have q0 := X1.cell 0
      have q1 := X1.cell 1
      have q2 := X1.cell 2
      have q3 := X1.cell 3
      have q4 := X1.cell 4
      have q5 := X1.cell 5
      have q6 := X1.cell 6
      simp only [List.getElem?_toArray, List.getElem?_cons_succ, List.getElem?_cons_zero] at q0 q1 q2 q3 q4 q5 q6
      have gq := X1.lt
      go_wp2_with fail
      clear p0 p1 p2 p3 p4 p5 p6 gp
      clear q0 q1 q2 q3 q4 q5 q6 gq
      refine (eqA_SendResult z P3.rd P1.rd).mono ?_
      rintro e w26 ⟨rfl, hb⟩
      have sz := hb.size
      try simp only [World.size_alloc] at sz
      replace KB0 := KB0.below hb
      replace KB1 := KB1.below hb
      replace P1 := P1.below hb
      replace X1 := X1.below hb
      replace XX0 := XX0.below hb
      replace XX1 := XX1.below hb
      replace X2 := X2.below hb
      replace M2 := M2.below hb
      replace P3 := P3.below hb
      replace X3 := X3.below hb
      replace K := btr K hb
      clear hb
      clear P3
      clear X3
      clear P1
      clear X1
      clear kpos
      have p0 := X2.cell 0
      have p1 := X2.cell 1
      have p2 := X2.cell 2
      have p3 := X2.cell 3
      have p4 := X2.cell 4
      have p5 := X2.cell 5
      have p6 := X2.cell 6
      simp only [List.getElem?_toArray, List.getElem?_cons_succ, List.getElem?_cons_zero] at p0 p1 p2 p3 p4 p5 p6
      have gp := X2.lt
      go_wp2_with fail
      clear p0 p1 p2 p3 p4 p5 p6 gp
      refine (heldA_SendResult z (k := 1) M2.rd (by omega)).mono ?_
      rintro e w27 ⟨rfl, hb⟩
      have sz := hb.size
      try simp only [World.size_alloc] at sz
      replace KB0 := KB0.below hb
      replace KB1 := KB1.below hb
      replace XX0 := XX0.below hb
      replace XX1 := XX1.below hb
      replace X2 := X2.below hb
      replace M2 := M2.below hb
      replace K := btr K hb
      clear hb
      have kpos : ¬ (((1 + vcA z.vs : Nat) : Int) < 0) := by omega
      go_wp2
      go_ret
      exact ⟨rfl, K⟩

/-- An input that the row's conditions hold of: the witness laid as theorems of their own (inside the refine Lean does not come to an end). -/
def wit : Input := ⟨#[], #[.agg #[.int .i64 0, .int .i64 0, .slice none 0 0, .slice none 0 0], .agg #[.int .i64 0, .slice none 0 0]], []⟩
theorem wit1 (os : Os) : (World.plainHolding Try.checked.prog os wit).variablesB Try.checked.prog = true := by kernel_rfl
theorem wit2 (os : Os) : ((World.plainHolding Try.checked.prog os wit).heap.toList.drop Try.checked.prog.globals.size).take ((begin Try.checked.prog (fun _ _ => 0) default).world.heap.size - Try.checked.prog.globals.size) =
    (begin Try.checked.prog (fun _ _ => 0) default).world.heap.toList.drop Try.checked.prog.globals.size := by kernel_rfl
theorem wit3 (os : Os) : Input.okWideB Try.checked.prog (World.plainHolding Try.checked.prog os wit) 10 ⟨#[], wit.args, []⟩ = true := by kernel_rfl
theorem wit4 (os : Os) (H : Type) (enc : TypeId × Value → H) : Rows.fnExactTakeSackSpec.preB enc Try.checked.prog Try.f10 Rows.fnExactTakeSackRow.domain false (World.plainHolding Try.checked.prog os wit).memory wit.args 8 = true := by kernel_rfl
theorem wit5 (os : Os) (H : Type) (enc : TypeId × Value → H) : Rows.fnExactTakeSackSpec.sizedB enc Try.checked.prog Try.f10 false (World.plainHolding Try.checked.prog os wit).memory wit.args 8 = true := by kernel_rfl

/-! ### THE ROW's STEP: WRITTEN OUT: LEAVE IT -/
set_option maxRecDepth 100000 in
theorem lifted (os : Os) (started : os.Started) (H : Type) (enc : TypeId × Value → H) :
    ReturnsInHanded {} Try.checked os 10 .any (Rows.fnExactTakeSackSpec.pre6 enc Try.prog Try.f10 Rows.fnExactTakeSackRow.domain false) (Rows.fnExactTakeSackSpec.post enc Try.prog Try.f10 false true false false) := by
  have hw := ChangeSpec.witness6 (enc := enc) (C := Try.checked) (fn := Try.f10) (s := Rows.fnExactTakeSackSpec) (conds := Rows.fnExactTakeSackRow.domain) (apart := false) false wit 8 (wit1 os) (wit2 os) (wit3 os) (wit4 os H enc) (wit5 os H enc)
  refine returnsInHanded_of_change (C := Try.checked) own started (by kernel_rfl) Try.func10 hw ?_
  intro W base args ds gs before hval0 hW hcnd _
  have hval : ∀ (j : Nat) t v, Try.f10.params[j]? = some t → args[j]? = some v → Value.okWide Try.prog W .any base t v := hval0
  have hW' := hW
  obtain ⟨p, q, hA0, hV, rfl, hfz, hnd⟩ := hW
  have hA : DataW.TrodAll enc Try.prog W 0 (fun _ => true) true Try.f10.params.toList args.toList ds p := hA0
  rw [Try.params10] at hA hval
  obtain ⟨v0, vs0, d0, ds0, p0, q0, hargs, rfl, rfl, h0, r0⟩ := trodAll_cons hA
  obtain ⟨v1, vs1, d1, ds1, p1, q1, rfl, rfl, rfl, h1, r1⟩ := trodAll_cons r0
  obtain ⟨rfl, rfl, rfl⟩ := trodAll_nil r1
  obtain rfl : args = #[v0, v1] := by cases args; simp_all
  obtain ⟨rfl, rfl⟩ := trodVars_none hV
  obtain ⟨cells0, rfl, hsz0⟩ := okWide_struct Try.underlying73 (hval 0 73 v0 rfl rfl)
  have k0 := h0
  have lt0 : ∀ x ∈ p0, x.block < W.heap.size := by obtain ⟨m, hm⟩ := k0; exact DataW.trod_lt m _ _ _ hm
  obtain ⟨y0, A0_2, c0_2, A0_3, c0_3, rfl, wr0, wf0⟩ := opened_Send h0
  have w0 := And.intro wr0 wf0
  obtain ⟨cells1, rfl, hsz1⟩ := okWide_struct Try.underlying91 (hval 1 91 v1 rfl rfl)
  have k1 := h1
  have lt1 : ∀ x ∈ p1, x.block < W.heap.size := by obtain ⟨m, hm⟩ := k1; exact DataW.trod_lt m _ _ _ hm
  obtain ⟨y1, A1_1, c1_1, rfl, wr1, wf1⟩ := opened_Sack h1
  have w1 := And.intro wr1 wf1
  clear hA0 hval0
  refine (walk y0 A0_2 c0_2 A0_3 c0_3 y1 A1_1 c1_1 W w0 w1).mono fun e W' ⟨he, bel⟩ => ?_
  subst he
  exact ⟨_, rfl, _, _, _, [], _, [], hW', trodAll_mk1 (shut_bool Try.underlying4 _), (trodAll_cons_mk (Below.trod laidOut (by kernel_rfl) (of_decide_eq_true (by kernel_rfl)) k0 bel lt0) (trodAll_cons_mk (Below.trod laidOut (by kernel_rfl) (of_decide_eq_true (by kernel_rfl)) k1 bel lt1) trodAll_mk0)), rfl, bel.frame _, fun h => by cases h⟩

theorem over : Rows.fnExactTakeSackRow.holds Try.pinned (OpenSpec.ofChange Rows.fnExactTakeSackSpec) :=
  OpenClaim.holds_of_wide 10 Try.f10 rfl rfl rfl rfl rfl rfl rfl ⟨rfl, rfl, rfl, rfl, rfl⟩ rfl rfl rfl rfl rfl (by kernel_rfl) Try.func10 (by kernel_rfl)
    (of_decide_eq_true (by kernel_rfl)) (by unfold Func.isWrapper; first | (rw [if_pos (by decide +kernel)]; kernel_rfl) | (rw [if_neg (by decide +kernel)]; exact ⟨rfl, rfl⟩))
    (fun os started H enc _ => lifted os started H enc)

/-- ████ THE STATEMENT ████ -/
theorem proved : Rows.FnExactTakeSackSaid := over
#print axioms proved
end Go.Proofs.Ythljdikcpdokdaa.fnExactTakeSack
