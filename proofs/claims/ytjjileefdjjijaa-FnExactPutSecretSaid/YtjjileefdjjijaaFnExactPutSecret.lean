/- At every list of secrets and every secret the program's PutSecret answers as its model does, in memory of its own, it leaves its arguments as they were, and the law FnExactPutSecret answers true. -/
import Derived.Test.YtjjileefdjjijaaRows
import Derived.Test.YtjjileefdjjijaaS6PL
import Derived.Test.YtjjileefdjjijaaUniR
import Derived.Test.YtjjileefdjjijaaLwBytes
import Derived.Test.YtjjileefdjjijaaFnExactPutSecretR
import Derived.Test.YtjjileefdjjijaaFnExactPutSecretC
import Derived.WalkSpells
import Derived.WalkLawsBesides
import Derived.WalkKit
import Derived.ProofKit
import Derived.OpenShut
import Derived.ShutString
import Derived.ChangeOld
import Derived.Below
namespace Go.Proofs.Ytjjileefdjjijaa.fnExactPutSecret
open Go.ChangeShapes Go.WideShapes Go.ChangeAt Go.RowKit
open Go.ChangeMaps (open_string shut_string)
set_option linter.unusedVariables false

theorem own : ownKnob Try.prog.godebug = none := by kernel_rfl
theorem laidOut : laidOutB Try.prog = true := by kernel_rfl

/-- WHAT THE WALK IS TOLD OF A SLICE OF INTEGERS THAT CAME IN: it is nil; or it leads to a row of 'cap' cells, the numbers 'zs' (the first 'len' are its elements, the rest its spare room), each fitting its kind. -/
def IsRow (k : IntKind) (w : World) (a : Option Addr) (len cap : Nat) (zs : List Int) : Prop :=
  (a = none ∧ len = 0 ∧ cap = 0 ∧ zs = []) ∨
  ∃ x, a = some x ∧ len ≤ cap ∧ cap ≤ maxLen ∧ zs.length = cap ∧ (∀ i, i < zs.length → w.cell? (x.add i) = some (.int k (zs.getD i 0))) ∧ ∀ n ∈ zs, (Lit.int k n).wf = true


set_option maxRecDepth 100000 in
set_option maxHeartbeats 4000000 in
theorem walk (r0 : List SecretM) (A0 : Option Addr) (c0 : Nat) (y1 : SecretM) (A1_1 : Option Addr) (c1_1 : Nat) (w : World) (w0 : Rd w (st_Secret r0) (.slice A0 r0.length c0) ∧ WfV (st_Secret r0)) (w1 : RdA w y1.vs [.int .i64 y1.Id, .slice A1_1 y1.Bytes.length c1_1] ∧ WfA y1.vs) :
    Calls Try.prog 7 #[.slice A0 r0.length c0, .agg #[.int .i64 y1.Id, .slice A1_1 y1.Bytes.length c1_1]] w fun e w' => e = .returned (.bool true) ∧ Below w.heap.size w w' := by
  obtain ⟨hr0, hwf0⟩ := w0
  obtain ⟨hr1, hwf1⟩ := w1
  have K : Below w.heap.size w w := Below.refl _ _
  have KB1 := Blk.new w 53 #[.int .i64 y1.Id, .slice A1_1 y1.Bytes.length c1_1]
  replace K := bal K (.cells #[.int .i64 y1.Id, .slice A1_1 y1.Bytes.length c1_1] 53)
  obtain ⟨w10, hw1⟩ : ∃ w10, (w.alloc (.cells #[.int .i64 y1.Id, .slice A1_1 y1.Bytes.length c1_1] 53)) = w10 := ⟨_, rfl⟩
  rw [hw1] at K KB1
  have HW1 := hidH hw1
  clear hw1
  have hKB1 := KB1.lt
  have KK := hidH K
  clear KK
  have HRD0 := hidH (fun (u : World) (h : Below w.heap.size w u) => Rd.below h _ hr0)
  have HWF0 := hidH hwf0
  have HRD1 := hidH (fun (u : World) (h : Below w.heap.size w u) => RdA.below h hr1)
  have HWF1 := hidH hwf1
  clear hr0 hwf0 hr1 hwf1
  go_enter Try.func7, Try.ntmps7
  go_wp2_with fail
  rw [HW1.out]
  refine (szS_Secret r0 _ 1048576 _ (HRD0.out _ K) (by omega) (by omega)).mono ?_
  rintro e w11 ⟨z0, rfl, hz0, hb⟩
  have sz := hb.size
  try simp only [World.size_alloc] at sz
  replace KB1 := KB1.below hb
  replace K := btr K hb
  clear hb
  have HZ0 := hidH hz0
  clear hz0
  by_cases h0 : z0 < 0
  · go_wp2
    go_ret
    exact ⟨rfl, K⟩
  · have ht0 : tot (st_Secret r0) ≤ 1048576 := by have := HZ0.out.2.2 (by omega); omega
    have hzp0 : 0 ≤ z0 := by omega
    have hzl0 : z0 ≤ 1048576 := by have := HZ0.out.2.1; omega
    clear h0
    have p0 := KB1.cell 0
    have p1 := KB1.cell 1
    simp only [List.getElem?_toArray, List.getElem?_cons_succ, List.getElem?_cons_zero] at p0 p1
    have gp := KB1.lt
    go_wp2_with fail
    clear p0 p1 gp
    refine (szA_Secret y1 (left := z0) (HRD1.out _ K) (by omega) (by omega)).mono ?_
    rintro e w12 ⟨z1, rfl, hz1, hb⟩
    have sz := hb.size
    try simp only [World.size_alloc] at sz
    replace KB1 := KB1.below hb
    replace K := btr K hb
    clear hb
    have HZ1 := hidH hz1
    clear hz1
    by_cases h0 : z1 < 0
    · go_wp2
      go_ret
      exact ⟨rfl, K⟩
    · have ht1 : tot.totL y1.vs ≤ 1048576 := by have := HZ1.out.2.2 (by omega); omega
      have hzp1 : 0 ≤ z1 := by omega
      have hzl1 : z1 ≤ 1048576 := by have := HZ1.out.2.1; omega
      clear h0
      have hlen := putR_len r0 y1 HWF0.out ht0 HWF1.out ht1
      have hcn0 : cc (st_Secret r0) ≤ 1000000000 := by
        have h1 := ccS_Secret r0
        have h2 : r0.length + tot.totL (r0.flatMap SecretM.vs) ≤ 1048576 := ht0
        show cc.ccL (r0.flatMap SecretM.vs) ≤ _
        omega
      have hcn1 : vcA y1.vs ≤ 1000000000 := cnt_Secret y1 ht1
      have TO0 := hidH (fun (u : World) (h : Below w.heap.size w u) => toS_Secret r0 _ u (HRD0.out u h) ht0)
      have TO1 := hidH (fun (u : World) (h : Below w.heap.size w u) => toA_Secret y1 (HRD1.out u h) ht1)
      have SP := hidH (fun (u : World) (v0 : Value) (v1 : List Value) (h0 : Rd u (st_Secret r0) v0) (h1 : RdA u y1.vs v1) => pt_spec r0 v0 y1 v1 u h0 HWF0.out ht0 h1 HWF1.out ht1)
      have IM := hidH (fun (u : World) (v0 : Value) (v1 : List Value) (h0 : Rd u (st_Secret r0) v0) (h1 : RdA u y1.vs v1) => pt_impl r0 v0 y1 v1 u h0 HWF0.out ht0 h1 HWF1.out ht1)
      obtain ⟨z, hz⟩ : ∃ z, putR r0 y1 = z := ⟨_, rfl⟩
      rw [hz] at SP IM hlen
      clear hz ht0 ht1
      clear HZ0 HZ1
      go_wp2_with fail
      refine wp_region_any (by kernel_rfl) ?_
      refine regPt8 _ _ _ _ _ _ _ _ _ _ _ _ _ _ _ _ _ _ _ _ _ w12 _ _ _ r0 y1 z _ _ KB1.lt (by simpa using KB1.cell 0) (by simpa using KB1.cell 1) (fun u h => TO0.out u (btr K h)) (fun u h => TO1.out u (btr K h)) (fun u v0 v1 h0 h1 => SP.out u v0 v1 h0 h1) (by kernel_rfl) (by kernel_rfl) (by kernel_rfl) rfl (fun h => by cases h) (fun h => by cases h) ((Below.refl _ _).drew) ?_
      intros
      rename_i w13 hb hX
      obtain ⟨gx1, lo1, hi1, R1_1, r1_1, rfl, X1, P1, hlo1, hhi1⟩ := hX
      have sz := hb.size
      try simp only [World.size_alloc] at sz
      replace KB1 := KB1.below hb
      replace K := btr K hb
      clear hb
      replace P1 := P1.mono hlo1 hhi1 (Nat.le_refl _)
      have hgX1 := X1.lt
      clear hlo1 hhi1
      go_wp2_with fail
      refine (TO0.out _ K).mono ?_
      rintro e w14 ⟨vs, rfl, Qx0, hb⟩
      obtain ⟨Ex0, ex0, rfl⟩ := st_Secret_sh Qx0.rd
      try simp only [World.size_alloc] at Qx0
      have sz := hb.size
      try simp only [World.size_alloc] at sz
      replace KB1 := KB1.below hb
      replace P1 := P1.below hb
      replace X1 := X1.below hb
      replace K := btr K hb
      clear hb
      have p0 := KB1.cell 0
      have p1 := KB1.cell 1
      simp only [List.getElem?_toArray, List.getElem?_cons_succ, List.getElem?_cons_zero] at p0 p1
      have gp := KB1.lt
      go_wp2_with fail
      clear p0 p1 gp
      refine (TO1.out _ K).mono ?_
      rintro e w15 ⟨vs, rfl, Qx1, hb⟩
      obtain ⟨Ex1_1, ex1_1, rfl⟩ := shape_Secret Qx1.rd
      try simp only [World.size_alloc] at Qx1
      have sz := hb.size
      try simp only [World.size_alloc] at sz
      replace KB1 := KB1.below hb
      replace P1 := P1.below hb
      replace X1 := X1.below hb
      replace Qx0 := Qx0.below hb
      replace K := btr K hb
      clear hb
      have XX1 := Blk.new w15 58 #[.int .i64 y1.Id, .slice Ex1_1 y1.Bytes.length ex1_1]
      replace KB1 := KB1.alloc (.cells #[.int .i64 y1.Id, .slice Ex1_1 y1.Bytes.length ex1_1] 58)
      replace P1 := P1.below (bal (Below.refl _ _) (.cells #[.int .i64 y1.Id, .slice Ex1_1 y1.Bytes.length ex1_1] 58))
      replace X1 := X1.alloc (.cells #[.int .i64 y1.Id, .slice Ex1_1 y1.Bytes.length ex1_1] 58)
      replace Qx0 := Qx0.below (bal (Below.refl _ _) (.cells #[.int .i64 y1.Id, .slice Ex1_1 y1.Bytes.length ex1_1] 58))
      replace Qx1 := Qx1.below (bal (Below.refl _ _) (.cells #[.int .i64 y1.Id, .slice Ex1_1 y1.Bytes.length ex1_1] 58))
      replace K := bal K (.cells #[.int .i64 y1.Id, .slice Ex1_1 y1.Bytes.length ex1_1] 58)
      have b10 := XX1.cell 0
      have b11 := XX1.cell 1
      simp only [List.getElem?_toArray, List.getElem?_cons_succ, List.getElem?_cons_zero] at b10 b11
      have gb1 := XX1.lt
      go_wp2_with fail
      clear b10 b11 gb1
      refine (IM.out _ _ _ Qx0.rd Qx1.rd).mono ?_
      rintro e w16 ⟨vs, rfl, P2, hb⟩
      obtain ⟨R2_1, r2_1, rfl⟩ := shape_SecretsResult P2.rd
      try simp only [World.size_alloc] at P2
      have sz := hb.size
      try simp only [World.size_alloc] at sz
      replace KB1 := KB1.below hb
      replace P1 := P1.below hb
      replace X1 := X1.below hb
      replace Qx0 := Qx0.below hb
      replace Qx1 := Qx1.below hb
      replace XX1 := XX1.below hb
      replace K := btr K hb
      clear hb
      have X2 := Blk.new w16 56 #[.int .i64 z.Code, .slice R2_1 z.Lst.length r2_1]
      replace KB1 := KB1.alloc (.cells #[.int .i64 z.Code, .slice R2_1 z.Lst.length r2_1] 56)
      replace P1 := P1.below (bal (Below.refl _ _) (.cells #[.int .i64 z.Code, .slice R2_1 z.Lst.length r2_1] 56))
      replace X1 := X1.alloc (.cells #[.int .i64 z.Code, .slice R2_1 z.Lst.length r2_1] 56)
      replace Qx0 := Qx0.below (bal (Below.refl _ _) (.cells #[.int .i64 z.Code, .slice R2_1 z.Lst.length r2_1] 56))
      replace Qx1 := Qx1.below (bal (Below.refl _ _) (.cells #[.int .i64 z.Code, .slice R2_1 z.Lst.length r2_1] 56))
      replace XX1 := XX1.alloc (.cells #[.int .i64 z.Code, .slice R2_1 z.Lst.length r2_1] 56)
      replace P2 := P2.below (bal (Below.refl _ _) (.cells #[.int .i64 z.Code, .slice R2_1 z.Lst.length r2_1] 56))
      replace K := bal K (.cells #[.int .i64 z.Code, .slice R2_1 z.Lst.length r2_1] 56)
      have p0 := X2.cell 0
      have p1 := X2.cell 1
      simp only [List.getElem?_toArray, List.getElem?_cons_succ, List.getElem?_cons_zero] at p0 p1
      have gp := X2.lt
      have q0 := X1.cell 0
      have q1 := X1.cell 1
      simp only [List.getElem?_toArray, List.getElem?_cons_succ, List.getElem?_cons_zero] at q0 q1
      have gq := X1.lt
      go_wp2_with fail
      clear p0 p1 gp
      clear q0 q1 gq
      refine (eqA_SecretsResult z P2.rd P1.rd).mono ?_
      rintro e w17 ⟨rfl, hb⟩
      have sz := hb.size
      try simp only [World.size_alloc] at sz
      replace KB1 := KB1.below hb
      replace P1 := P1.below hb
      replace X1 := X1.below hb
      replace Qx0 := Qx0.below hb
      replace Qx1 := Qx1.below hb
      replace XX1 := XX1.below hb
      replace P2 := P2.below hb
      replace X2 := X2.below hb
      replace K := btr K hb
      clear hb
      go_wp2_with fail
      refine (TO0.out _ K).mono ?_
      rintro e w18 ⟨vs, rfl, Qe0, hb⟩
      obtain ⟨Ee0, ee0, rfl⟩ := st_Secret_sh Qe0.rd
      try simp only [World.size_alloc] at Qe0
      have sz := hb.size
      try simp only [World.size_alloc] at sz
      replace KB1 := KB1.below hb
      replace P1 := P1.below hb
      replace X1 := X1.below hb
      replace Qx0 := Qx0.below hb
      replace Qx1 := Qx1.below hb
      replace XX1 := XX1.below hb
      replace P2 := P2.below hb
      replace X2 := X2.below hb
      replace K := btr K hb
      clear hb
      go_wp2_with fail
      refine (eqS_Secret r0 _ _ _ Qx0.rd Qe0.rd).mono ?_
      rintro e w19 ⟨rfl, hb⟩
      have sz := hb.size
      try simp only [World.size_alloc] at sz
      replace KB1 := KB1.below hb
      replace P1 := P1.below hb
      replace X1 := X1.below hb
      replace Qx0 := Qx0.below hb
      replace Qx1 := Qx1.below hb
      replace XX1 := XX1.below hb
      replace P2 := P2.below hb
      replace X2 := X2.below hb
      replace Qe0 := Qe0.below hb
      replace K := btr K hb
      clear hb
      clear Qe0
      go_wp2_with fail
      refine wp_region_any (by kernel_rfl) ?_
      refine regFnExactPutSecret_1 _ _ _ _ _ _ _ _ _ _ _ _ _ _ _ _ _ _ _ _ _ _ _ _ _ _ _ _ _ _ _ _ _ _ _ _ _ _ _ _ _ _ _ w19 _ _ y1 _ _ _ _ (fun u h => TO1.out u (btr K h)) (fun u vs h k => eqA_Secret y1 (RdA.below h Qx1.rd) k) (by kernel_rfl) (by kernel_rfl) (by kernel_rfl) rfl (KB1.below (Below.refl _ _).drew) (XX1.below (Below.refl _ _).drew) ((Below.refl _ _).drew) (Below.refl _ _) ?_
      intros
      rename_i w20 m1 m2 m3 hb
      clear m1 m2 m3
      replace hb := (Below.refl _ _).drew.trans hb
      have sz := hb.size
      try simp only [World.size_alloc] at sz
      replace KB1 := KB1.below hb
      replace P1 := P1.below hb
      replace X1 := X1.below hb
      replace Qx0 := Qx0.below hb
      replace Qx1 := Qx1.below hb
      replace XX1 := XX1.below hb
      replace P2 := P2.below hb
      replace X2 := X2.below hb
      replace K := btr K hb
      clear hb
      go_wp2_with fail
      refine (markS_Secret r0 (Wn _ _) _ (1) _ Qx0.2 (by omega)).mono ?_
      rintro e w21 ⟨rfl, hc, _⟩
      have W := hc.win (fun _ _ h => h)
      clear hc
      have sz := W.size
      replace KB1 := Blk.win2 KB1 W (.inl (by omega))
      replace P1 := P1.win W (.inl (by omega))
      replace X1 := Blk.win2 X1 W (.inl (by omega))
      replace Qx1 := Qx1.win W (.inr (by omega))
      replace XX1 := Blk.win2 XX1 W (.inr (by omega))
      replace P2 := P2.win W (.inr (by omega))
      replace X2 := Blk.win2 X2 W (.inr (by omega))
      replace K := K.trans ((W.below (by omega)).mono (by omega))
      clear W
      clear Qx0
      have p0 := XX1.cell 0
      have p1 := XX1.cell 1
      simp only [List.getElem?_toArray, List.getElem?_cons_succ, List.getElem?_cons_zero] at p0 p1
      have gp := XX1.lt
      go_wp2_with fail
      clear p0 p1 gp
      refine (markA_Secret y1 (S := Wn _ _) (k := 1 + cc (st_Secret r0)) (Wn.sub (Nat.zero_le _) Qx1.1) Qx1.2 (by omega)).mono ?_
      rintro e w22 ⟨rfl, hc, _⟩
      have W := hc.win (fun _ _ h => h)
      clear hc
      have sz := W.size
      replace KB1 := Blk.win2 KB1 W (.inl (by omega))
      replace P1 := P1.win W (.inl (by omega))
      replace X1 := Blk.win2 X1 W (.inl (by omega))
      replace XX1 := Blk.win2 XX1 W (.inr (by omega))
      replace P2 := P2.win W (.inr (by omega))
      replace X2 := Blk.win2 X2 W (.inr (by omega))
      replace K := K.trans ((W.below (by omega)).mono (by omega))
      clear W
      clear Qx1
      have kpos : ¬ (((1 + cc (st_Secret r0) + vcA y1.vs : Nat) : Int) < 0) := by omega
      have p0 := X2.cell 0
      have p1 := X2.cell 1
      simp only [List.getElem?_toArray, List.getElem?_cons_succ, List.getElem?_cons_zero] at p0 p1
      have gp := X2.lt
      have q0 := X1.cell 0
      have q1 := X1.cell 1
      simp only [List.getElem?_toArray, List.getElem?_cons_succ, List.getElem?_cons_zero] at q0 q1
      have gq := X1.lt
      go_wp2_with fail
      clear p0 p1 gp
      clear q0 q1 gq
      refine (eqA_SecretsResult z P2.rd P1.rd).mono ?_
      rintro e w23 ⟨rfl, hb⟩
      have sz := hb.size
      try simp only [World.size_alloc] at sz
      replace KB1 := KB1.below hb
      replace P1 := P1.below hb
      replace X1 := X1.below hb
      replace XX1 := XX1.below hb
      replace P2 := P2.below hb
      replace X2 := X2.below hb
      replace K := btr K hb
      clear hb
      clear kpos
      have p0 := X2.cell 0
      have p1 := X2.cell 1
      simp only [List.getElem?_toArray, List.getElem?_cons_succ, List.getElem?_cons_zero] at p0 p1
      have gp := X2.lt
      go_wp2_with fail
      clear p0 p1 gp
      refine (markA_SecretsResult z (S := Wn _ _) (k := 1) (Wn.sub (Nat.zero_le _) P2.1) P2.2 (by omega)).mono ?_
      rintro e w24 ⟨rfl, hc, ho⟩
      have W := hc.win (fun _ _ h => h)
      have M2 := And.intro (Nat.le_trans P2.1 hc.size) ho
      replace M2 : OwN _ _ _ _ _ := M2
      clear hc ho
      have sz := W.size
      replace KB1 := Blk.win2 KB1 W (.inl (by omega))
      replace P1 := P1.win W (.inl (by omega))
      replace X1 := Blk.win2 X1 W (.inl (by omega))
      replace XX1 := Blk.win2 XX1 W (.inl (by omega))
      replace X2 := Blk.win2 X2 W (.inr (by omega))
      replace K := K.trans ((W.below (by omega)).mono (by omega))
      clear W
      clear P2
      have p0 := X2.cell 0
      have p1 := X2.cell 1
      simp only [List.getElem?_toArray, List.getElem?_cons_succ, List.getElem?_cons_zero] at p0 p1
      have gp := X2.lt
      go_wp2_with fail
      clear p0 p1 gp
      refine (heldA_SecretsResult z (k := 1) M2.rd (by omega)).mono ?_
      rintro e w25 ⟨rfl, hb⟩
      have sz := hb.size
      try simp only [World.size_alloc] at sz
      replace KB1 := KB1.below hb
      replace P1 := P1.below hb
      replace X1 := X1.below hb
      replace XX1 := XX1.below hb
      replace X2 := X2.below hb
      replace M2 := M2.below hb
      replace K := btr K hb
      clear hb
      have kpos : ¬ (((1 + vcA z.vs : Nat) : Int) < 0) := by omega
      go_wp2_with fail
      refine wp_region_any (by kernel_rfl) ?_
      refine regPt31 _ _ _ _ _ _ _ _ _ _ _ _ _ _ _ _ _ _ _ _ _ _ _ _ _ _ _ _ _ _ _ _ _ _ _ _ _ _ _ _ _ _ _ _ _ _ _ _ _ _ _ _ _ _ _ _ _ _ _ _ _ _ _ _ _ _ _ _ _ _ _ _ w25 _ _ _ r0 y1 z _ _ KB1.lt (by simpa using KB1.cell 0) (by simpa using KB1.cell 1) (fun u h => TO0.out u (btr K h)) (fun u h => TO1.out u (btr K h)) (fun u v0 v1 h0 h1 => IM.out u v0 v1 h0 h1) (by kernel_rfl) (by kernel_rfl) (by kernel_rfl) rfl (fun h => by cases h) (fun h => by cases h) ((Below.refl _ _).drew) ?_
      intros
      rename_i w26 hb hX
      obtain ⟨gx3, lo3, hi3, R3_1, r3_1, rfl, X3, P3, hlo3, hhi3⟩ := hX
      have sz := hb.size
      try simp only [World.size_alloc] at sz
      replace KB1 := KB1.below hb
      replace P1 := P1.below hb
      replace X1 := X1.below hb
      replace XX1 := XX1.below hb
      replace X2 := X2.below hb
      replace M2 := M2.below hb
      replace K := btr K hb
      clear hb
      replace P3 := P3.mono hlo3 hhi3 (Nat.le_refl _)
      have hgX3 := X3.lt
      clear hlo3 hhi3
      have p0 := X3.cell 0
      have p1 := X3.cell 1
      simp only [List.getElem?_toArray, List.getElem?_cons_succ, List.getElem?_cons_zero] at p0 p1
      have gp := X3.lt
      have q0 := X1.cell 0
      have q1 := X1.cell 1
      simp only [List.getElem?_toArray, List.getElem?_cons_succ, List.getElem?_cons_zero] at q0 q1
      have gq := X1.lt
      go_wp2_with fail
      clear p0 p1 gp
      clear q0 q1 gq
      refine (eqA_SecretsResult z P3.rd P1.rd).mono ?_
      rintro e w27 ⟨rfl, hb⟩
      have sz := hb.size
      try simp only [World.size_alloc] at sz
      replace KB1 := KB1.below hb
      replace P1 := P1.below hb
      replace X1 := X1.below hb
      replace XX1 := XX1.below hb
      replace X2 := X2.below hb
      replace M2 := M2.below hb
      replace P3 := P3.below hb
      replace X3 := X3.below hb
      replace K := btr K hb
      clear hb
      clear P3
      clear X3
      clear P1
      clear X1
      clear kpos
      have p0 := X2.cell 0
      have p1 := X2.cell 1
      simp only [List.getElem?_toArray, List.getElem?_cons_succ, List.getElem?_cons_zero] at p0 p1
      have gp := X2.lt
      go_wp2_with fail
      clear p0 p1 gp
      refine (heldA_SecretsResult z (k := 1) M2.rd (by omega)).mono ?_
      rintro e w28 ⟨rfl, hb⟩
      have sz := hb.size
      try simp only [World.size_alloc] at sz
      replace KB1 := KB1.below hb
      replace XX1 := XX1.below hb
      replace X2 := X2.below hb
      replace M2 := M2.below hb
      replace K := btr K hb
      clear hb
      have kpos : ¬ (((1 + vcA z.vs : Nat) : Int) < 0) := by omega
      go_wp2
      go_ret
      exact ⟨rfl, K⟩

/-- An input that the row's conditions hold of: the witness laid as theorems of their own (inside the refine Lean does not come to an end). -/
def wit : Input := ⟨#[], #[.slice none 0 0, .agg #[.int .i64 0, .slice none 0 0]], []⟩
theorem wit1 (os : Os) : (World.plainHolding Try.checked.prog os wit).variablesB Try.checked.prog = true := by kernel_rfl
theorem wit2 (os : Os) : ((World.plainHolding Try.checked.prog os wit).heap.toList.drop Try.checked.prog.globals.size).take ((begin Try.checked.prog (fun _ _ => 0) default).world.heap.size - Try.checked.prog.globals.size) =
    (begin Try.checked.prog (fun _ _ => 0) default).world.heap.toList.drop Try.checked.prog.globals.size := by kernel_rfl
theorem wit3 (os : Os) : Input.okWideB Try.checked.prog (World.plainHolding Try.checked.prog os wit) 7 ⟨#[], wit.args, []⟩ = true := by kernel_rfl
theorem wit4 (os : Os) (H : Type) (enc : TypeId × Value → H) : Rows.fnExactPutSecretSpec.preB enc Try.checked.prog Try.f7 Rows.fnExactPutSecretRow.domain false (World.plainHolding Try.checked.prog os wit).memory wit.args 8 = true := by kernel_rfl
theorem wit5 (os : Os) (H : Type) (enc : TypeId × Value → H) : Rows.fnExactPutSecretSpec.sizedB enc Try.checked.prog Try.f7 false (World.plainHolding Try.checked.prog os wit).memory wit.args 8 = true := by kernel_rfl

/-! ### THE ROW's STEP: WRITTEN OUT: LEAVE IT -/
set_option maxRecDepth 100000 in
theorem lifted (os : Os) (started : os.Started) (H : Type) (enc : TypeId × Value → H) :
    ReturnsInHanded {} Try.checked os 7 .any (Rows.fnExactPutSecretSpec.pre6 enc Try.prog Try.f7 Rows.fnExactPutSecretRow.domain false) (Rows.fnExactPutSecretSpec.post enc Try.prog Try.f7 false true false false) := by
  have hw := ChangeSpec.witness6 (enc := enc) (C := Try.checked) (fn := Try.f7) (s := Rows.fnExactPutSecretSpec) (conds := Rows.fnExactPutSecretRow.domain) (apart := false) false wit 8 (wit1 os) (wit2 os) (wit3 os) (wit4 os H enc) (wit5 os H enc)
  refine returnsInHanded_of_change (C := Try.checked) own started (by kernel_rfl) Try.func7 hw ?_
  intro W base args ds gs before hval0 hW hcnd _
  have hval : ∀ (j : Nat) t v, Try.f7.params[j]? = some t → args[j]? = some v → Value.okWide Try.prog W .any base t v := hval0
  have hW' := hW
  obtain ⟨p, q, hA0, hV, rfl, hfz, hnd⟩ := hW
  have hA : DataW.TrodAll enc Try.prog W 0 (fun _ => true) true Try.f7.params.toList args.toList ds p := hA0
  rw [Try.params7] at hA hval
  obtain ⟨v0, vs0, d0, ds0, p0, q0, hargs, rfl, rfl, h0, r0⟩ := trodAll_cons hA
  obtain ⟨v1, vs1, d1, ds1, p1, q1, rfl, rfl, rfl, h1, r1⟩ := trodAll_cons r0
  obtain ⟨rfl, rfl, rfl⟩ := trodAll_nil r1
  obtain rfl : args = #[v0, v1] := by cases args; simp_all
  obtain ⟨rfl, rfl⟩ := trodVars_none hV
  obtain ⟨aa0, ll0, cc0, rfl⟩ := okWide_slice Try.underlying22 (hval 0 22 v0 rfl rfl)
  have k0 := h0
  have lt0 : ∀ x ∈ p0, x.block < W.heap.size := by obtain ⟨m, hm⟩ := k0; exact DataW.trod_lt m _ _ _ hm
  obtain ⟨lz0, Az0, cz0, ez0, w0⟩ : ∃ (l : List SecretM) (A : Option Addr) (c : Nat), Value.slice aa0 ll0 cc0 = .slice A l.length c ∧ Rd W (st_Secret l) (.slice A l.length c) ∧ WfV (st_Secret l) := by
    obtain ⟨fuel, hf⟩ := h0
    obtain ⟨l, hr, hw⟩ := openS_Secret (v := .slice aa0 ll0 cc0) hf
    obtain ⟨A, c, e⟩ := st_Secret_sh hr
    exact ⟨l, A, c, e, e ▸ hr, hw⟩
  obtain ⟨rfl, rfl, rfl⟩ := Value.slice.inj ez0
  obtain ⟨cells1, rfl, hsz1⟩ := okWide_struct Try.underlying53 (hval 1 53 v1 rfl rfl)
  have k1 := h1
  have lt1 : ∀ x ∈ p1, x.block < W.heap.size := by obtain ⟨m, hm⟩ := k1; exact DataW.trod_lt m _ _ _ hm
  obtain ⟨y1, A1_1, c1_1, rfl, wr1, wf1⟩ := opened_Secret h1
  have w1 := And.intro wr1 wf1
  clear hA0 hval0
  refine (walk _ _ _ y1 A1_1 c1_1 W w0 w1).mono fun e W' ⟨he, bel⟩ => ?_
  subst he
  exact ⟨_, rfl, _, _, _, [], _, [], hW', trodAll_mk1 (shut_bool Try.underlying4 _), (trodAll_cons_mk (Below.trod laidOut (by kernel_rfl) (of_decide_eq_true (by kernel_rfl)) k0 bel lt0) (trodAll_cons_mk (Below.trod laidOut (by kernel_rfl) (of_decide_eq_true (by kernel_rfl)) k1 bel lt1) trodAll_mk0)), rfl, bel.frame _, fun h => by cases h⟩

theorem over : Rows.fnExactPutSecretRow.holds Try.pinned (OpenSpec.ofChange Rows.fnExactPutSecretSpec) :=
  OpenClaim.holds_of_wide 7 Try.f7 rfl rfl rfl rfl rfl rfl rfl ⟨rfl, rfl, rfl, rfl, rfl⟩ rfl rfl rfl rfl rfl (by kernel_rfl) Try.func7 (by kernel_rfl)
    (of_decide_eq_true (by kernel_rfl)) (by unfold Func.isWrapper; first | (rw [if_pos (by decide +kernel)]; kernel_rfl) | (rw [if_neg (by decide +kernel)]; exact ⟨rfl, rfl⟩))
    (fun os started H enc _ => lifted os started H enc)

/-- ████ THE STATEMENT ████ -/
theorem proved : Rows.FnExactPutSecretSaid := over
#print axioms proved
end Go.Proofs.Ytjjileefdjjijaa.fnExactPutSecret
