/- At every list of secrets, Id and two vectors the program's KeyOf answers as its model does, in memory of its own, it leaves its arguments as they were, and the law FnExactKeyOf answers true. -/
import Derived.Test.YtjjileefdjjijaaRows
import Derived.Test.YtjjileefdjjijaaS6MI
import Derived.Test.YtjjileefdjjijaaUniR
import Derived.Test.YtjjileefdjjijaaLwBytes
import Derived.WalkSpells
import Derived.WalkLawsBesides
import Derived.WalkKit
import Derived.ProofKit
import Derived.OpenShut
import Derived.ShutString
import Derived.ChangeOld
import Derived.Below
namespace Go.Proofs.Ytjjileefdjjijaa.fnExactKeyOf
open Go.ChangeShapes Go.WideShapes Go.ChangeAt Go.RowKit
open Go.ChangeMaps (open_string shut_string)
set_option linter.unusedVariables false

theorem own : ownKnob Try.prog.godebug = none := by kernel_rfl
theorem laidOut : laidOutB Try.prog = true := by kernel_rfl

/-- WHAT THE WALK IS TOLD OF A SLICE OF INTEGERS THAT CAME IN: it is nil; or it leads to a row of 'cap' cells, the numbers 'zs' (the first 'len' are its elements, the rest its spare room), each fitting its kind. -/
def IsRow (k : IntKind) (w : World) (a : Option Addr) (len cap : Nat) (zs : List Int) : Prop :=
  (a = none ∧ len = 0 ∧ cap = 0 ∧ zs = []) ∨
  ∃ x, a = some x ∧ len ≤ cap ∧ cap ≤ maxLen ∧ zs.length = cap ∧ (∀ i, i < zs.length → w.cell? (x.add i) = some (.int k (zs.getD i 0))) ∧ ∀ n ∈ zs, (Lit.int k n).wf = true


set_option maxRecDepth 100000 in
set_option maxHeartbeats 4000000 in
theorem walk (r0 : List SecretM) (A0 : Option Addr) (c0 : Nat) (j1 : Int) (l2 : List Int) (A2 : Option Addr) (c2 : Nat) (l3 : List Int) (A3 : Option Addr) (c3 : Nat) (w : World) (w0 : Rd w (st_Secret r0) (.slice A0 r0.length c0) ∧ WfV (st_Secret r0)) (w1 : WfV (.int j1)) (w2 : Rd w (.bs l2) (.slice A2 l2.length c2) ∧ WfV (.bs l2)) (w3 : Rd w (.bs l3) (.slice A3 l3.length c3) ∧ WfV (.bs l3)) :
    Calls Try.prog 6 #[.slice A0 r0.length c0, .int .i64 j1, .slice A2 l2.length c2, .slice A3 l3.length c3] w fun e w' => e = .returned (.bool true) ∧ Below w.heap.size w w' := by
  obtain ⟨hr0, hwf0⟩ := w0
  obtain ⟨hr2, hwf2⟩ := w2
  obtain ⟨hr3, hwf3⟩ := w3
  have K : Below w.heap.size w w := Below.refl _ _
  by_cases hbig2 : (1048576 : Int) < (l2.length : Int)
  · go_enter Try.func6, Try.ntmps6
    go_wp2
    go_ret
    exact ⟨rfl, by exact Below.refl _ _⟩
  have ht2 : tot (.bs l2) ≤ 1048576 := by simp only [tot]; omega
  have hlen2 : (l2.length : Int) ≤ 1048576 := by omega
  clear hbig2
  by_cases hbig3 : (1048576 : Int) < (l3.length : Int)
  · go_enter Try.func6, Try.ntmps6
    go_wp2
    go_ret
    exact ⟨rfl, by exact Below.refl _ _⟩
  have ht3 : tot (.bs l3) ≤ 1048576 := by simp only [tot]; omega
  have hlen3 : (l3.length : Int) ≤ 1048576 := by omega
  clear hbig3
  have HRD0 := hidH (fun (u : World) (h : Below w.heap.size w u) => Rd.below h _ hr0)
  have HWF0 := hidH hwf0
  have HRD2 := hidH (fun (u : World) (h : Below w.heap.size w u) => Rd.below h _ hr2)
  have HWF2 := hidH hwf2
  have HRD3 := hidH (fun (u : World) (h : Below w.heap.size w u) => Rd.below h _ hr3)
  have HWF3 := hidH hwf3
  clear hr0 hwf0 hr2 hwf2 hr3 hwf3
  go_enter Try.func6, Try.ntmps6
  go_wp2_with fail
  refine (szS_Secret r0 _ 1048576 _ (HRD0.out _ K) (by omega) (by omega)).mono ?_
  rintro e w11 ⟨z0, rfl, hz0, hb⟩
  have sz := hb.size
  try simp only [World.size_alloc] at sz
  replace K := btr K hb
  clear hb
  have HZ0 := hidH hz0
  clear hz0
  by_cases h0 : z0 < 0
  · go_wp2
    go_ret
    exact ⟨rfl, K⟩
  · have ht0 : tot (st_Secret r0) ≤ 1048576 := by have := HZ0.out.2.2 (by omega); omega
    have hzp0 : 0 ≤ z0 := by omega
    have hzl0 : z0 ≤ 1048576 := by have := HZ0.out.2.1; omega
    clear h0
    have hlen := keyR_len r0 j1 l2 l3 HWF0.out ht0 w1 HWF2.out ht2 HWF3.out ht3
    have hcn0 : cc (st_Secret r0) ≤ 1000000000 := by
      have h1 := ccS_Secret r0
      have h2 : r0.length + tot.totL (r0.flatMap SecretM.vs) ≤ 1048576 := ht0
      show cc.ccL (r0.flatMap SecretM.vs) ≤ _
      omega
    have hcn2 : cc (.bs l2) ≤ 1000000000 := by simp only [cc]; omega
    have hcn3 : cc (.bs l3) ≤ 1000000000 := by simp only [cc]; omega
    have TO0 := hidH (fun (u : World) (h : Below w.heap.size w u) => toS_Secret r0 _ u (HRD0.out u h) ht0)
    have TO2 := hidH (fun (u : World) (h : Below w.heap.size w u) => toB_rd l2 _ u (HRD2.out u h) ht2)
    have TO3 := hidH (fun (u : World) (h : Below w.heap.size w u) => toB_rd l3 _ u (HRD3.out u h) ht3)
    have SP := hidH (fun (u : World) (v0 : Value) (v2 : Value) (v3 : Value) (h0 : Rd u (st_Secret r0) v0) (h2 : Rd u (.bs l2) v2) (h3 : Rd u (.bs l3) v3) => ky_spec r0 v0 j1 l2 v2 l3 v3 u h0 HWF0.out ht0 w1 h2 HWF2.out ht2 h3 HWF3.out ht3)
    have IM := hidH (fun (u : World) (v0 : Value) (v2 : Value) (v3 : Value) (h0 : Rd u (st_Secret r0) v0) (h2 : Rd u (.bs l2) v2) (h3 : Rd u (.bs l3) v3) => ky_impl r0 v0 j1 l2 v2 l3 v3 u h0 HWF0.out ht0 w1 h2 HWF2.out ht2 h3 HWF3.out ht3)
    obtain ⟨z, hz⟩ : ∃ z, keyR r0 j1 l2 l3 = z := ⟨_, rfl⟩
    rw [hz] at SP IM hlen
    clear hz ht0 ht2 ht3
    clear HZ0
    go_wp2_with fail
    refine (TO0.out _ K).mono ?_
    rintro e w12 ⟨vs, rfl, Qa0, hb⟩
    obtain ⟨Ea0, ea0, rfl⟩ := st_Secret_sh Qa0.rd
    try simp only [World.size_alloc] at Qa0
    have sz := hb.size
    try simp only [World.size_alloc] at sz
    replace K := btr K hb
    clear hb
    go_wp2_with fail
    refine (TO2.out _ K).mono ?_
    rintro e w13 ⟨vs, rfl, Qa2, hb⟩
    obtain ⟨Ea2, ea2, rfl⟩ := Qa2.rd.bs_sh
    try simp only [World.size_alloc] at Qa2
    have sz := hb.size
    try simp only [World.size_alloc] at sz
    replace Qa0 := Qa0.below hb
    replace K := btr K hb
    clear hb
    go_wp2_with fail
    refine (TO3.out _ K).mono ?_
    rintro e w14 ⟨vs, rfl, Qa3, hb⟩
    obtain ⟨Ea3, ea3, rfl⟩ := Qa3.rd.bs_sh
    try simp only [World.size_alloc] at Qa3
    have sz := hb.size
    try simp only [World.size_alloc] at sz
    replace Qa0 := Qa0.below hb
    replace Qa2 := Qa2.below hb
    replace K := btr K hb
    clear hb
    go_wp2_with fail
    refine (SP.out _ _ _ _ Qa0.rd Qa2.rd Qa3.rd).mono ?_
    rintro e w15 ⟨vs, rfl, P1, hb⟩
    obtain ⟨R1_1, r1_1, rfl⟩ := shape_BytesResult P1.rd
    try simp only [World.size_alloc] at P1
    have sz := hb.size
    try simp only [World.size_alloc] at sz
    replace Qa0 := Qa0.below hb
    replace Qa2 := Qa2.below hb
    replace Qa3 := Qa3.below hb
    replace K := btr K hb
    clear hb
    have X1 := Blk.new w15 35 #[.int .i64 z.Code, .slice R1_1 z.Bytes.length r1_1]
    replace Qa0 := Qa0.below (bal (Below.refl _ _) (.cells #[.int .i64 z.Code, .slice R1_1 z.Bytes.length r1_1] 35))
    replace Qa2 := Qa2.below (bal (Below.refl _ _) (.cells #[.int .i64 z.Code, .slice R1_1 z.Bytes.length r1_1] 35))
    replace Qa3 := Qa3.below (bal (Below.refl _ _) (.cells #[.int .i64 z.Code, .slice R1_1 z.Bytes.length r1_1] 35))
    replace P1 := P1.below (bal (Below.refl _ _) (.cells #[.int .i64 z.Code, .slice R1_1 z.Bytes.length r1_1] 35))
    replace K := bal K (.cells #[.int .i64 z.Code, .slice R1_1 z.Bytes.length r1_1] 35)
    clear Qa0
    clear Qa2
    clear Qa3
    go_wp2_with fail
    refine (TO0.out _ K).mono ?_
    rintro e w16 ⟨vs, rfl, Qx0, hb⟩
    obtain ⟨Ex0, ex0, rfl⟩ := st_Secret_sh Qx0.rd
    try simp only [World.size_alloc] at Qx0
    have sz := hb.size
    try simp only [World.size_alloc] at sz
    replace P1 := P1.below hb
    replace X1 := X1.below hb
    replace K := btr K hb
    clear hb
    go_wp2_with fail
    refine (TO2.out _ K).mono ?_
    rintro e w17 ⟨vs, rfl, Qx2, hb⟩
    obtain ⟨Ex2, ex2, rfl⟩ := Qx2.rd.bs_sh
    try simp only [World.size_alloc] at Qx2
    have sz := hb.size
    try simp only [World.size_alloc] at sz
    replace P1 := P1.below hb
    replace X1 := X1.below hb
    replace Qx0 := Qx0.below hb
    replace K := btr K hb
    clear hb
    go_wp2_with fail
    refine (TO3.out _ K).mono ?_
    rintro e w18 ⟨vs, rfl, Qx3, hb⟩
    obtain ⟨Ex3, ex3, rfl⟩ := Qx3.rd.bs_sh
    try simp only [World.size_alloc] at Qx3
    have sz := hb.size
    try simp only [World.size_alloc] at sz
    replace P1 := P1.below hb
    replace X1 := X1.below hb
    replace Qx0 := Qx0.below hb
    replace Qx2 := Qx2.below hb
    replace K := btr K hb
    clear hb
    go_wp2_with fail
    refine (IM.out _ _ _ _ Qx0.rd Qx2.rd Qx3.rd).mono ?_
    rintro e w19 ⟨vs, rfl, P2, hb⟩
    obtain ⟨R2_1, r2_1, rfl⟩ := shape_BytesResult P2.rd
    try simp only [World.size_alloc] at P2
    have sz := hb.size
    try simp only [World.size_alloc] at sz
    replace P1 := P1.below hb
    replace X1 := X1.below hb
    replace Qx0 := Qx0.below hb
    replace Qx2 := Qx2.below hb
    replace Qx3 := Qx3.below hb
    replace K := btr K hb
    clear hb
    have X2 := Blk.new w19 35 #[.int .i64 z.Code, .slice R2_1 z.Bytes.length r2_1]
    replace P1 := P1.below (bal (Below.refl _ _) (.cells #[.int .i64 z.Code, .slice R2_1 z.Bytes.length r2_1] 35))
    replace X1 := X1.alloc (.cells #[.int .i64 z.Code, .slice R2_1 z.Bytes.length r2_1] 35)
    replace Qx0 := Qx0.below (bal (Below.refl _ _) (.cells #[.int .i64 z.Code, .slice R2_1 z.Bytes.length r2_1] 35))
    replace Qx2 := Qx2.below (bal (Below.refl _ _) (.cells #[.int .i64 z.Code, .slice R2_1 z.Bytes.length r2_1] 35))
    replace Qx3 := Qx3.below (bal (Below.refl _ _) (.cells #[.int .i64 z.Code, .slice R2_1 z.Bytes.length r2_1] 35))
    replace P2 := P2.below (bal (Below.refl _ _) (.cells #[.int .i64 z.Code, .slice R2_1 z.Bytes.length r2_1] 35))
    replace K := bal K (.cells #[.int .i64 z.Code, .slice R2_1 z.Bytes.length r2_1] 35)
    have p0 := X2.cell 0
    have p1 := X2.cell 1
    simp only [List.getElem?_toArray, List.getElem?_cons_succ, List.getElem?_cons_zero] at p0 p1
    have gp := X2.lt
    have q0 := X1.cell 0
    have q1 := X1.cell 1
    simp only [List.getElem?_toArray, List.getElem?_cons_succ, List.getElem?_cons_zero] at q0 q1
    have gq := X1.lt
    go_wp2_with fail
    clear p0 p1 gp
    clear q0 q1 gq
    refine (eqA_BytesResult z P2.rd P1.rd).mono ?_
    rintro e w20 ⟨rfl, hb⟩
    have sz := hb.size
    try simp only [World.size_alloc] at sz
    replace P1 := P1.below hb
    replace X1 := X1.below hb
    replace Qx0 := Qx0.below hb
    replace Qx2 := Qx2.below hb
    replace Qx3 := Qx3.below hb
    replace P2 := P2.below hb
    replace X2 := X2.below hb
    replace K := btr K hb
    clear hb
    go_wp2_with fail
    refine (TO0.out _ K).mono ?_
    rintro e w21 ⟨vs, rfl, Qe0, hb⟩
    obtain ⟨Ee0, ee0, rfl⟩ := st_Secret_sh Qe0.rd
    try simp only [World.size_alloc] at Qe0
    have sz := hb.size
    try simp only [World.size_alloc] at sz
    replace P1 := P1.below hb
    replace X1 := X1.below hb
    replace Qx0 := Qx0.below hb
    replace Qx2 := Qx2.below hb
    replace Qx3 := Qx3.below hb
    replace P2 := P2.below hb
    replace X2 := X2.below hb
    replace K := btr K hb
    clear hb
    go_wp2_with fail
    refine (eqS_Secret r0 _ _ _ Qx0.rd Qe0.rd).mono ?_
    rintro e w22 ⟨rfl, hb⟩
    have sz := hb.size
    try simp only [World.size_alloc] at sz
    replace P1 := P1.below hb
    replace X1 := X1.below hb
    replace Qx0 := Qx0.below hb
    replace Qx2 := Qx2.below hb
    replace Qx3 := Qx3.below hb
    replace P2 := P2.below hb
    replace X2 := X2.below hb
    replace Qe0 := Qe0.below hb
    replace K := btr K hb
    clear hb
    clear Qe0
    go_wp2_with fail
    refine (TO2.out _ K).mono ?_
    rintro e w23 ⟨vs, rfl, Qe2, hb⟩
    obtain ⟨Ee2, ee2, rfl⟩ := Qe2.rd.bs_sh
    try simp only [World.size_alloc] at Qe2
    have sz := hb.size
    try simp only [World.size_alloc] at sz
    replace P1 := P1.below hb
    replace X1 := X1.below hb
    replace Qx0 := Qx0.below hb
    replace Qx2 := Qx2.below hb
    replace Qx3 := Qx3.below hb
    replace P2 := P2.below hb
    replace X2 := X2.below hb
    replace K := btr K hb
    clear hb
    go_wp2_with fail
    refine (eqB_rd l2 _ _ _ Qx2.rd Qe2.rd).mono ?_
    rintro e w24 ⟨rfl, hb⟩
    have sz := hb.size
    try simp only [World.size_alloc] at sz
    replace P1 := P1.below hb
    replace X1 := X1.below hb
    replace Qx0 := Qx0.below hb
    replace Qx2 := Qx2.below hb
    replace Qx3 := Qx3.below hb
    replace P2 := P2.below hb
    replace X2 := X2.below hb
    replace Qe2 := Qe2.below hb
    replace K := btr K hb
    clear hb
    clear Qe2
    go_wp2_with fail
    refine (TO3.out _ K).mono ?_
    rintro e w25 ⟨vs, rfl, Qe3, hb⟩
    obtain ⟨Ee3, ee3, rfl⟩ := Qe3.rd.bs_sh
    try simp only [World.size_alloc] at Qe3
    have sz := hb.size
    try simp only [World.size_alloc] at sz
    replace P1 := P1.below hb
    replace X1 := X1.below hb
    replace Qx0 := Qx0.below hb
    replace Qx2 := Qx2.below hb
    replace Qx3 := Qx3.below hb
    replace P2 := P2.below hb
    replace X2 := X2.below hb
    replace K := btr K hb
    clear hb
    go_wp2_with fail
    refine (eqB_rd l3 _ _ _ Qx3.rd Qe3.rd).mono ?_
    rintro e w26 ⟨rfl, hb⟩
    have sz := hb.size
    try simp only [World.size_alloc] at sz
    replace P1 := P1.below hb
    replace X1 := X1.below hb
    replace Qx0 := Qx0.below hb
    replace Qx2 := Qx2.below hb
    replace Qx3 := Qx3.below hb
    replace P2 := P2.below hb
    replace X2 := X2.below hb
    replace Qe3 := Qe3.below hb
    replace K := btr K hb
    clear hb
    clear Qe3
    go_wp2_with fail
    refine (markS_Secret r0 (Wn _ _) _ (1) _ Qx0.2 (by omega)).mono ?_
    rintro e w27 ⟨rfl, hc, _⟩
    have W := hc.win (fun _ _ h => h)
    clear hc
    have sz := W.size
    replace P1 := P1.win W (.inl (by omega))
    replace X1 := Blk.win2 X1 W (.inl (by omega))
    replace Qx2 := Qx2.win W (.inr (by omega))
    replace Qx3 := Qx3.win W (.inr (by omega))
    replace P2 := P2.win W (.inr (by omega))
    replace X2 := Blk.win2 X2 W (.inr (by omega))
    replace K := K.trans ((W.below (by omega)).mono (by omega))
    clear W
    clear Qx0
    go_wp2_with fail
    refine (markB_ow l2 (Wn _ _) _ (1 + cc (st_Secret r0)) _ Qx2.2 (by omega)).mono ?_
    rintro e w28 ⟨rfl, hc, _⟩
    have W := hc.win (fun _ _ h => h)
    clear hc
    have sz := W.size
    replace P1 := P1.win W (.inl (by omega))
    replace X1 := Blk.win2 X1 W (.inl (by omega))
    replace Qx3 := Qx3.win W (.inr (by omega))
    replace P2 := P2.win W (.inr (by omega))
    replace X2 := Blk.win2 X2 W (.inr (by omega))
    replace K := K.trans ((W.below (by omega)).mono (by omega))
    clear W
    clear Qx2
    go_wp2_with fail
    refine (markB_ow l3 (Wn _ _) _ (1 + cc (st_Secret r0) + cc (.bs l2)) _ Qx3.2 (by omega)).mono ?_
    rintro e w29 ⟨rfl, hc, _⟩
    have W := hc.win (fun _ _ h => h)
    clear hc
    have sz := W.size
    replace P1 := P1.win W (.inl (by omega))
    replace X1 := Blk.win2 X1 W (.inl (by omega))
    replace P2 := P2.win W (.inr (by omega))
    replace X2 := Blk.win2 X2 W (.inr (by omega))
    replace K := K.trans ((W.below (by omega)).mono (by omega))
    clear W
    clear Qx3
    have kpos : ¬ (((1 + cc (st_Secret r0) + cc (.bs l2) + cc (.bs l3) : Nat) : Int) < 0) := by omega
    have p0 := X2.cell 0
    have p1 := X2.cell 1
    simp only [List.getElem?_toArray, List.getElem?_cons_succ, List.getElem?_cons_zero] at p0 p1
    have gp := X2.lt
    have q0 := X1.cell 0
    have q1 := X1.cell 1
    simp only [List.getElem?_toArray, List.getElem?_cons_succ, List.getElem?_cons_zero] at q0 q1
    have gq := X1.lt
    go_wp2_with fail
    clear p0 p1 gp
    clear q0 q1 gq
    refine (eqA_BytesResult z P2.rd P1.rd).mono ?_
    rintro e w30 ⟨rfl, hb⟩
    have sz := hb.size
    try simp only [World.size_alloc] at sz
    replace P1 := P1.below hb
    replace X1 := X1.below hb
    replace P2 := P2.below hb
    replace X2 := X2.below hb
    replace K := btr K hb
    clear hb
    clear kpos
    have p0 := X2.cell 0
    have p1 := X2.cell 1
    simp only [List.getElem?_toArray, List.getElem?_cons_succ, List.getElem?_cons_zero] at p0 p1
    have gp := X2.lt
    go_wp2_with fail
    clear p0 p1 gp
    refine (markA_BytesResult z (S := Wn _ _) (k := 1) (Wn.sub (Nat.zero_le _) P2.1) P2.2 (by omega)).mono ?_
    rintro e w31 ⟨rfl, hc, ho⟩
    have W := hc.win (fun _ _ h => h)
    have M2 := And.intro (Nat.le_trans P2.1 hc.size) ho
    replace M2 : OwN _ _ _ _ _ := M2
    clear hc ho
    have sz := W.size
    replace P1 := P1.win W (.inl (by omega))
    replace X1 := Blk.win2 X1 W (.inl (by omega))
    replace X2 := Blk.win2 X2 W (.inr (by omega))
    replace K := K.trans ((W.below (by omega)).mono (by omega))
    clear W
    clear P2
    have p0 := X2.cell 0
    have p1 := X2.cell 1
    simp only [List.getElem?_toArray, List.getElem?_cons_succ, List.getElem?_cons_zero] at p0 p1
    have gp := X2.lt
    go_wp2_with fail
    clear p0 p1 gp
    refine (heldA_BytesResult z (k := 1) M2.rd (by omega)).mono ?_
    rintro e w32 ⟨rfl, hb⟩
    have sz := hb.size
    try simp only [World.size_alloc] at sz
    replace P1 := P1.below hb
    replace X1 := X1.below hb
    replace X2 := X2.below hb
    replace M2 := M2.below hb
    replace K := btr K hb
    clear hb
    have kpos : ¬ (((1 + vcA z.vs : Nat) : Int) < 0) := by omega
    go_wp2_with fail
    refine (TO0.out _ K).mono ?_
    rintro e w33 ⟨vs, rfl, Qh0, hb⟩
    obtain ⟨Eh0, eh0, rfl⟩ := st_Secret_sh Qh0.rd
    try simp only [World.size_alloc] at Qh0
    have sz := hb.size
    try simp only [World.size_alloc] at sz
    replace P1 := P1.below hb
    replace X1 := X1.below hb
    replace X2 := X2.below hb
    replace M2 := M2.below hb
    replace K := btr K hb
    clear hb
    go_wp2_with fail
    refine (TO2.out _ K).mono ?_
    rintro e w34 ⟨vs, rfl, Qh2, hb⟩
    obtain ⟨Eh2, eh2, rfl⟩ := Qh2.rd.bs_sh
    try simp only [World.size_alloc] at Qh2
    have sz := hb.size
    try simp only [World.size_alloc] at sz
    replace P1 := P1.below hb
    replace X1 := X1.below hb
    replace X2 := X2.below hb
    replace M2 := M2.below hb
    replace Qh0 := Qh0.below hb
    replace K := btr K hb
    clear hb
    go_wp2_with fail
    refine (TO3.out _ K).mono ?_
    rintro e w35 ⟨vs, rfl, Qh3, hb⟩
    obtain ⟨Eh3, eh3, rfl⟩ := Qh3.rd.bs_sh
    try simp only [World.size_alloc] at Qh3
    have sz := hb.size
    try simp only [World.size_alloc] at sz
    replace P1 := P1.below hb
    replace X1 := X1.below hb
    replace X2 := X2.below hb
    replace M2 := M2.below hb
    replace Qh0 := Qh0.below hb
    replace Qh2 := Qh2.below hb
    replace K := btr K hb
    clear hb
    go_wp2_with fail
    refine (IM.out _ _ _ _ Qh0.rd Qh2.rd Qh3.rd).mono ?_
    rintro e w36 ⟨vs, rfl, P3, hb⟩
    obtain ⟨R3_1, r3_1, rfl⟩ := shape_BytesResult P3.rd
    try simp only [World.size_alloc] at P3
    have sz := hb.size
    try simp only [World.size_alloc] at sz
    replace P1 := P1.below hb
    replace X1 := X1.below hb
    replace X2 := X2.below hb
    replace M2 := M2.below hb
    replace Qh0 := Qh0.below hb
    replace Qh2 := Qh2.below hb
    replace Qh3 := Qh3.below hb
    replace K := btr K hb
    clear hb
    have X3 := Blk.new w36 35 #[.int .i64 z.Code, .slice R3_1 z.Bytes.length r3_1]
    replace P1 := P1.below (bal (Below.refl _ _) (.cells #[.int .i64 z.Code, .slice R3_1 z.Bytes.length r3_1] 35))
    replace X1 := X1.alloc (.cells #[.int .i64 z.Code, .slice R3_1 z.Bytes.length r3_1] 35)
    replace X2 := X2.alloc (.cells #[.int .i64 z.Code, .slice R3_1 z.Bytes.length r3_1] 35)
    replace M2 := M2.below (bal (Below.refl _ _) (.cells #[.int .i64 z.Code, .slice R3_1 z.Bytes.length r3_1] 35))
    replace Qh0 := Qh0.below (bal (Below.refl _ _) (.cells #[.int .i64 z.Code, .slice R3_1 z.Bytes.length r3_1] 35))
    replace Qh2 := Qh2.below (bal (Below.refl _ _) (.cells #[.int .i64 z.Code, .slice R3_1 z.Bytes.length r3_1] 35))
    replace Qh3 := Qh3.below (bal (Below.refl _ _) (.cells #[.int .i64 z.Code, .slice R3_1 z.Bytes.length r3_1] 35))
    replace P3 := P3.below (bal (Below.refl _ _) (.cells #[.int .i64 z.Code, .slice R3_1 z.Bytes.length r3_1] 35))
    replace K := bal K (.cells #[.int .i64 z.Code, .slice R3_1 z.Bytes.length r3_1] 35)
    clear Qh0
    clear Qh2
    clear Qh3
    have p0 := X3.cell 0
    have p1 := X3.cell 1
    simp only [List.getElem?_toArray, List.getElem?_cons_succ, List.getElem?_cons_zero] at p0 p1
    have gp := X3.lt
    have q0 := X1.cell 0
    have q1 := X1.cell 1
    simp only [List.getElem?_toArray, List.getElem?_cons_succ, List.getElem?_cons_zero] at q0 q1
    have gq := X1.lt
    go_wp2_with fail
    clear p0 p1 gp
    clear q0 q1 gq
    refine (eqA_BytesResult z P3.rd P1.rd).mono ?_
    rintro e w37 ⟨rfl, hb⟩
    have sz := hb.size
    try simp only [World.size_alloc] at sz
    replace P1 := P1.below hb
    replace X1 := X1.below hb
    replace X2 := X2.below hb
    replace M2 := M2.below hb
    replace P3 := P3.below hb
    replace X3 := X3.below hb
    replace K := btr K hb
    clear hb
    clear P3
    clear X3
    clear P1
    clear X1
    clear kpos
    have p0 := X2.cell 0
    have p1 := X2.cell 1
    simp only [List.getElem?_toArray, List.getElem?_cons_succ, List.getElem?_cons_zero] at p0 p1
    have gp := X2.lt
    go_wp2_with fail
    clear p0 p1 gp
    refine (heldA_BytesResult z (k := 1) M2.rd (by omega)).mono ?_
    rintro e w38 ⟨rfl, hb⟩
    have sz := hb.size
    try simp only [World.size_alloc] at sz
    replace X2 := X2.below hb
    replace M2 := M2.below hb
    replace K := btr K hb
    clear hb
    have kpos : ¬ (((1 + vcA z.vs : Nat) : Int) < 0) := by omega
    go_wp2
    go_ret
    exact ⟨rfl, K⟩

/-- An input that the row's conditions hold of: the witness laid as theorems of their own (inside the refine Lean does not come to an end). -/
def wit : Input := ⟨#[], #[.slice none 0 0, .int .i64 0, .slice none 0 0, .slice none 0 0], []⟩
theorem wit1 (os : Os) : (World.plainHolding Try.checked.prog os wit).variablesB Try.checked.prog = true := by kernel_rfl
theorem wit2 (os : Os) : ((World.plainHolding Try.checked.prog os wit).heap.toList.drop Try.checked.prog.globals.size).take ((begin Try.checked.prog (fun _ _ => 0) default).world.heap.size - Try.checked.prog.globals.size) =
    (begin Try.checked.prog (fun _ _ => 0) default).world.heap.toList.drop Try.checked.prog.globals.size := by kernel_rfl
theorem wit3 (os : Os) : Input.okWideB Try.checked.prog (World.plainHolding Try.checked.prog os wit) 6 ⟨#[], wit.args, []⟩ = true := by kernel_rfl
theorem wit4 (os : Os) (H : Type) (enc : TypeId × Value → H) : Rows.fnExactKeyOfSpec.preB enc Try.checked.prog Try.f6 Rows.fnExactKeyOfRow.domain false (World.plainHolding Try.checked.prog os wit).memory wit.args 8 = true := by kernel_rfl
theorem wit5 (os : Os) (H : Type) (enc : TypeId × Value → H) : Rows.fnExactKeyOfSpec.sizedB enc Try.checked.prog Try.f6 false (World.plainHolding Try.checked.prog os wit).memory wit.args 8 = true := by kernel_rfl

/-! ### THE ROW's STEP: WRITTEN OUT: LEAVE IT -/
set_option maxRecDepth 100000 in
theorem lifted (os : Os) (started : os.Started) (H : Type) (enc : TypeId × Value → H) :
    ReturnsInHanded {} Try.checked os 6 .any (Rows.fnExactKeyOfSpec.pre6 enc Try.prog Try.f6 Rows.fnExactKeyOfRow.domain false) (Rows.fnExactKeyOfSpec.post enc Try.prog Try.f6 false true false false) := by
  have hw := ChangeSpec.witness6 (enc := enc) (C := Try.checked) (fn := Try.f6) (s := Rows.fnExactKeyOfSpec) (conds := Rows.fnExactKeyOfRow.domain) (apart := false) false wit 8 (wit1 os) (wit2 os) (wit3 os) (wit4 os H enc) (wit5 os H enc)
  refine returnsInHanded_of_change (C := Try.checked) own started (by kernel_rfl) Try.func6 hw ?_
  intro W base args ds gs before hval0 hW hcnd _
  have hval : ∀ (j : Nat) t v, Try.f6.params[j]? = some t → args[j]? = some v → Value.okWide Try.prog W .any base t v := hval0
  have hW' := hW
  obtain ⟨p, q, hA0, hV, rfl, hfz, hnd⟩ := hW
  have hA : DataW.TrodAll enc Try.prog W 0 (fun _ => true) true Try.f6.params.toList args.toList ds p := hA0
  rw [Try.params6] at hA hval
  obtain ⟨v0, vs0, d0, ds0, p0, q0, hargs, rfl, rfl, h0, r0⟩ := trodAll_cons hA
  obtain ⟨v1, vs1, d1, ds1, p1, q1, rfl, rfl, rfl, h1, r1⟩ := trodAll_cons r0
  obtain ⟨v2, vs2, d2, ds2, p2, q2, rfl, rfl, rfl, h2, r2⟩ := trodAll_cons r1
  obtain ⟨v3, vs3, d3, ds3, p3, q3, rfl, rfl, rfl, h3, r3⟩ := trodAll_cons r2
  obtain ⟨rfl, rfl, rfl⟩ := trodAll_nil r3
  obtain rfl : args = #[v0, v1, v2, v3] := by cases args; simp_all
  obtain ⟨rfl, rfl⟩ := trodVars_none hV
  obtain ⟨aa0, ll0, cc0, rfl⟩ := okWide_slice Try.underlying22 (hval 0 22 v0 rfl rfl)
  have k0 := h0
  have lt0 : ∀ x ∈ p0, x.block < W.heap.size := by obtain ⟨m, hm⟩ := k0; exact DataW.trod_lt m _ _ _ hm
  obtain ⟨lz0, Az0, cz0, ez0, w0⟩ : ∃ (l : List SecretM) (A : Option Addr) (c : Nat), Value.slice aa0 ll0 cc0 = .slice A l.length c ∧ Rd W (st_Secret l) (.slice A l.length c) ∧ WfV (st_Secret l) := by
    obtain ⟨fuel, hf⟩ := h0
    obtain ⟨l, hr, hw⟩ := openS_Secret (v := .slice aa0 ll0 cc0) hf
    obtain ⟨A, c, e⟩ := st_Secret_sh hr
    exact ⟨l, A, c, e, e ▸ hr, hw⟩
  obtain ⟨rfl, rfl, rfl⟩ := Value.slice.inj ez0
  have k1 := h1
  have lt1 : ∀ x ∈ p1, x.block < W.heap.size := by obtain ⟨m, hm⟩ := k1; exact DataW.trod_lt m _ _ _ hm
  obtain ⟨j1, rfl⟩ := okWide_int Try.underlying2 (hval 1 2 v1 rfl rfl)
  have w1 : WfV (.int j1) := by
    obtain ⟨fuel, hf⟩ := h1
    obtain ⟨n0, e0, _, wf0⟩ := DataW.trod_int Try.underlying2 hf
    obtain rfl : j1 = n0 := by simpa [Value.cells] using e0
    exact wf_int wf0
  obtain ⟨aa2, ll2, cc2, rfl⟩ := okWide_slice Try.underlying29 (hval 2 29 v2 rfl rfl)
  have k2 := h2
  have lt2 : ∀ x ∈ p2, x.block < W.heap.size := by obtain ⟨m, hm⟩ := k2; exact DataW.trod_lt m _ _ _ hm
  obtain ⟨lz2, Az2, cz2, ez2, w2⟩ : ∃ (l : List Int) (A : Option Addr) (c : Nat), Value.slice aa2 ll2 cc2 = .slice A l.length c ∧ Rd W (.bs l) (.slice A l.length c) ∧ WfV (.bs l) := by
    obtain ⟨fuel, hf⟩ := h2
    obtain ⟨l, hr, hw⟩ := open_bs (v := .slice aa2 ll2 cc2) hf
    obtain ⟨A, c, e⟩ := hr.bs_sh
    exact ⟨l, A, c, e, e ▸ hr, hw⟩
  obtain ⟨rfl, rfl, rfl⟩ := Value.slice.inj ez2
  obtain ⟨aa3, ll3, cc3, rfl⟩ := okWide_slice Try.underlying29 (hval 3 29 v3 rfl rfl)
  have k3 := h3
  have lt3 : ∀ x ∈ p3, x.block < W.heap.size := by obtain ⟨m, hm⟩ := k3; exact DataW.trod_lt m _ _ _ hm
  obtain ⟨lz3, Az3, cz3, ez3, w3⟩ : ∃ (l : List Int) (A : Option Addr) (c : Nat), Value.slice aa3 ll3 cc3 = .slice A l.length c ∧ Rd W (.bs l) (.slice A l.length c) ∧ WfV (.bs l) := by
    obtain ⟨fuel, hf⟩ := h3
    obtain ⟨l, hr, hw⟩ := open_bs (v := .slice aa3 ll3 cc3) hf
    obtain ⟨A, c, e⟩ := hr.bs_sh
    exact ⟨l, A, c, e, e ▸ hr, hw⟩
  obtain ⟨rfl, rfl, rfl⟩ := Value.slice.inj ez3
  clear hA0 hval0
  refine (walk _ _ _ j1 _ _ _ _ _ _ W w0 w1 w2 w3).mono fun e W' ⟨he, bel⟩ => ?_
  subst he
  exact ⟨_, rfl, _, _, _, [], _, [], hW', trodAll_mk1 (shut_bool Try.underlying4 _), (trodAll_cons_mk (Below.trod laidOut (by kernel_rfl) (of_decide_eq_true (by kernel_rfl)) k0 bel lt0) (trodAll_cons_mk (Below.trod laidOut (by kernel_rfl) (of_decide_eq_true (by kernel_rfl)) k1 bel lt1) (trodAll_cons_mk (Below.trod laidOut (by kernel_rfl) (of_decide_eq_true (by kernel_rfl)) k2 bel lt2) (trodAll_cons_mk (Below.trod laidOut (by kernel_rfl) (of_decide_eq_true (by kernel_rfl)) k3 bel lt3) trodAll_mk0)))), rfl, bel.frame _, fun h => by cases h⟩

theorem over : Rows.fnExactKeyOfRow.holds Try.pinned (OpenSpec.ofChange Rows.fnExactKeyOfSpec) :=
  OpenClaim.holds_of_wide 6 Try.f6 rfl rfl rfl rfl rfl rfl rfl ⟨rfl, rfl, rfl, rfl, rfl⟩ rfl rfl rfl rfl rfl (by kernel_rfl) Try.func6 (by kernel_rfl)
    (of_decide_eq_true (by kernel_rfl)) (by unfold Func.isWrapper; first | (rw [if_pos (by decide +kernel)]; kernel_rfl) | (rw [if_neg (by decide +kernel)]; exact ⟨rfl, rfl⟩))
    (fun os started H enc _ => lifted os started H enc)

/-- ████ THE STATEMENT ████ -/
theorem proved : Rows.FnExactKeyOfSaid := over
#print axioms proved
end Go.Proofs.Ytjjileefdjjijaa.fnExactKeyOf
