/- At every argument the program's PackInit answers as its model does, in memory of its own, it leaves its argument as it was, and the law FnExactPackInit answers true. -/
import Derived.Test.YtgghelpbobbkgaaRows
import Derived.Test.YtgghelpbobbkgaaS5II
import Derived.Test.YtgghelpbobbkgaaIpGP
import Derived.Test.YtgghelpbobbkgaaLwBytes
import Derived.Test.YtgghelpbobbkgaaFnExactPackInitR
import Derived.WalkSpells
import Derived.WalkLawsBesides
import Derived.WalkKit
import Derived.ProofKit
import Derived.OpenShut
import Derived.ShutString
import Derived.ChangeOld
import Derived.Below
namespace Go.Proofs.Ytgghelpbobbkgaa.fnExactPackInit
open Go.ChangeShapes Go.WideShapes Go.ChangeAt Go.RowKit
open Go.ChangeMaps (open_string shut_string)
set_option linter.unusedVariables false

theorem own : ownKnob Try.prog.godebug = none := by kernel_rfl
theorem laidOut : laidOutB Try.prog = true := by kernel_rfl

/-- WHAT THE WALK IS TOLD OF A SLICE OF INTEGERS THAT CAME IN: it is nil; or it leads to a row of 'cap' cells, the numbers 'zs' (the first 'len' are its elements, the rest its spare room), each fitting its kind. -/
def IsRow (k : IntKind) (w : World) (a : Option Addr) (len cap : Nat) (zs : List Int) : Prop :=
  (a = none ∧ len = 0 ∧ cap = 0 ∧ zs = []) ∨
  ∃ x, a = some x ∧ len ≤ cap ∧ cap ≤ maxLen ∧ zs.length = cap ∧ (∀ i, i < zs.length → w.cell? (x.add i) = some (.int k (zs.getD i 0))) ∧ ∀ n ∈ zs, (Lit.int k n).wf = true


set_option maxRecDepth 100000 in
set_option maxHeartbeats 4000000 in
theorem walk (y0 : InitM) (A0_2 : Option Addr) (c0_2 : Nat) (A0_3 : Option Addr) (c0_3 : Nat) (A0_4 : Option Addr) (c0_4 : Nat) (j1 : Int) (w : World) (w0 : RdA w y0.vs [.int .i64 y0.Tag, .int .i64 y0.Tsn, .slice A0_2 y0.Random.length c0_2, .slice A0_3 y0.Addrs.length c0_3, .slice A0_4 y0.Cookie.length c0_4] ∧ WfA y0.vs) (hj1 : True) :
    Calls Try.prog 5 #[.agg #[.int .i64 y0.Tag, .int .i64 y0.Tsn, .slice A0_2 y0.Random.length c0_2, .slice A0_3 y0.Addrs.length c0_3, .slice A0_4 y0.Cookie.length c0_4], .int .i64 j1] w fun e w' => e = .returned (.bool true) ∧ Below w.heap.size w w' := by
  obtain ⟨hr, hwf⟩ := w0
  have K1 := Blk.new w 52 #[.int .i64 y0.Tag, .int .i64 y0.Tsn, .slice A0_2 y0.Random.length c0_2, .slice A0_3 y0.Addrs.length c0_3, .slice A0_4 y0.Cookie.length c0_4]
  have B1 := bal (Below.refl w.heap.size w) (.cells #[.int .i64 y0.Tag, .int .i64 y0.Tsn, .slice A0_2 y0.Random.length c0_2, .slice A0_3 y0.Addrs.length c0_3, .slice A0_4 y0.Cookie.length c0_4] 52)
  obtain ⟨w1, hw1⟩ : ∃ w1, w.alloc (.cells #[.int .i64 y0.Tag, .int .i64 y0.Tsn, .slice A0_2 y0.Random.length c0_2, .slice A0_3 y0.Addrs.length c0_3, .slice A0_4 y0.Cookie.length c0_4] 52) = w1 := ⟨_, rfl⟩
  rw [hw1] at K1 B1
  have HW1 := hidH hw1
  have HRD := hidH (fun (u : World) (h : Below w.heap.size w u) => RdA.below h hr)
  have SZ := hidH (fun (u : World) (h : Below w.heap.size w u) => szA_Init y0 (left := 1048576) (RdA.below h hr) (by omega) (by omega))
  have HWF := hidH hwf
  clear hw1 hr hwf
  go_enter Try.func5, Try.ntmps5
  go_wp2_with fail
  rw [HW1.out]
  refine (SZ.out _ B1).mono ?_
  rintro e w12 ⟨z0, rfl, hz, b2⟩
  have KB := K1.below b2
  have K := btr B1 b2
  have HZ := hidH hz
  clear K1 B1 b2 SZ HW1 hz
  by_cases h0 : z0 < 0
  · go_wp2
    go_ret
    exact ⟨rfl, K⟩
  · have ht : tot.totL y0.vs ≤ 1048576 := by have := HZ.out.2.2 (by omega); omega
    have hzp : 0 ≤ z0 := by omega
    have hlen := piR_len y0 j1 HWF.out ht
    have hcn : vcA y0.vs ≤ 1000000000 := cnt_Init y0 ht
    have TO := hidH (fun (u : World) (h : Below w.heap.size w u) => toA_Init y0 (HRD.out u h) ht)
    have SP := hidH (fun (u : World) (vs : List Value) (h : RdA u y0.vs vs) => pi_spec y0 j1 vs u h HWF.out ht)
    have IM := hidH (fun (u : World) (vs : List Value) (h : RdA u y0.vs vs) => pi_impl y0 j1 vs u h HWF.out ht)
    obtain ⟨z, hz⟩ : ∃ z, piR y0 j1 = z := ⟨_, rfl⟩
    rw [hz] at SP IM hlen
    have hlt := KB.lt
    clear hz h0 ht HZ
    have p0 := KB.cell 0
    have p1 := KB.cell 1
    have p2 := KB.cell 2
    have p3 := KB.cell 3
    have p4 := KB.cell 4
    simp only [List.getElem?_toArray, List.getElem?_cons_succ, List.getElem?_cons_zero] at p0 p1 p2 p3 p4
    have gp := KB.lt
    go_wp2_with fail
    clear p0 p1 p2 p3 p4 gp
    refine (TO.out _ K).mono ?_
    rintro e w13 ⟨vs, rfl, Qa, hb⟩
    obtain ⟨Ea2, ea2, Ea3, ea3, Ea4, ea4, rfl⟩ := shape_Init Qa.rd
    try simp only [World.size_alloc] at Qa
    have sz := hb.size
    try simp only [World.size_alloc] at sz
    replace KB := KB.below hb
    replace K := btr K hb
    clear hb
    go_wp2_with fail
    refine (SP.out _ _ Qa.rd).mono ?_
    rintro e w14 ⟨vs, rfl, P1, hb⟩
    obtain ⟨R1_3, r1_3, rfl⟩ := shape_ChunkResult P1.rd
    try simp only [World.size_alloc] at P1
    have sz := hb.size
    try simp only [World.size_alloc] at sz
    replace KB := KB.below hb
    replace Qa := Qa.below hb
    replace K := btr K hb
    clear hb
    have X1 := Blk.new w14 29 #[.int .i64 z.Code, .int .i64 z.Chunk_Kind, .int .i64 z.Chunk_Flags, .slice R1_3 z.Chunk_Body.length r1_3]
    replace KB := KB.alloc (.cells #[.int .i64 z.Code, .int .i64 z.Chunk_Kind, .int .i64 z.Chunk_Flags, .slice R1_3 z.Chunk_Body.length r1_3] 29)
    replace Qa := Qa.below (bal (Below.refl _ _) (.cells #[.int .i64 z.Code, .int .i64 z.Chunk_Kind, .int .i64 z.Chunk_Flags, .slice R1_3 z.Chunk_Body.length r1_3] 29))
    replace P1 := P1.below (bal (Below.refl _ _) (.cells #[.int .i64 z.Code, .int .i64 z.Chunk_Kind, .int .i64 z.Chunk_Flags, .slice R1_3 z.Chunk_Body.length r1_3] 29))
    replace K := bal K (.cells #[.int .i64 z.Code, .int .i64 z.Chunk_Kind, .int .i64 z.Chunk_Flags, .slice R1_3 z.Chunk_Body.length r1_3] 29)
    clear Qa
    have p0 := KB.cell 0
    have p1 := KB.cell 1
    have p2 := KB.cell 2
    have p3 := KB.cell 3
    have p4 := KB.cell 4
    simp only [List.getElem?_toArray, List.getElem?_cons_succ, List.getElem?_cons_zero] at p0 p1 p2 p3 p4
    have gp := KB.lt
    go_wp2_with fail
    clear p0 p1 p2 p3 p4 gp
    refine (TO.out _ K).mono ?_
    rintro e w15 ⟨vs, rfl, Qx, hb⟩
    obtain ⟨Ex2, ex2, Ex3, ex3, Ex4, ex4, rfl⟩ := shape_Init Qx.rd
    try simp only [World.size_alloc] at Qx
    have sz := hb.size
    try simp only [World.size_alloc] at sz
    replace KB := KB.below hb
    replace P1 := P1.below hb
    replace X1 := X1.below hb
    replace K := btr K hb
    clear hb
    have XX := Blk.new w15 55 #[.int .i64 y0.Tag, .int .i64 y0.Tsn, .slice Ex2 y0.Random.length ex2, .slice Ex3 y0.Addrs.length ex3, .slice Ex4 y0.Cookie.length ex4]
    replace KB := KB.alloc (.cells #[.int .i64 y0.Tag, .int .i64 y0.Tsn, .slice Ex2 y0.Random.length ex2, .slice Ex3 y0.Addrs.length ex3, .slice Ex4 y0.Cookie.length ex4] 55)
    replace P1 := P1.below (bal (Below.refl _ _) (.cells #[.int .i64 y0.Tag, .int .i64 y0.Tsn, .slice Ex2 y0.Random.length ex2, .slice Ex3 y0.Addrs.length ex3, .slice Ex4 y0.Cookie.length ex4] 55))
    replace X1 := X1.alloc (.cells #[.int .i64 y0.Tag, .int .i64 y0.Tsn, .slice Ex2 y0.Random.length ex2, .slice Ex3 y0.Addrs.length ex3, .slice Ex4 y0.Cookie.length ex4] 55)
    replace Qx := Qx.below (bal (Below.refl _ _) (.cells #[.int .i64 y0.Tag, .int .i64 y0.Tsn, .slice Ex2 y0.Random.length ex2, .slice Ex3 y0.Addrs.length ex3, .slice Ex4 y0.Cookie.length ex4] 55))
    replace K := bal K (.cells #[.int .i64 y0.Tag, .int .i64 y0.Tsn, .slice Ex2 y0.Random.length ex2, .slice Ex3 y0.Addrs.length ex3, .slice Ex4 y0.Cookie.length ex4] 55)
    have p0 := XX.cell 0
    have p1 := XX.cell 1
    have p2 := XX.cell 2
    have p3 := XX.cell 3
    have p4 := XX.cell 4
    simp only [List.getElem?_toArray, List.getElem?_cons_succ, List.getElem?_cons_zero] at p0 p1 p2 p3 p4
    have gp := XX.lt
    go_wp2_with fail
    clear p0 p1 p2 p3 p4 gp
    refine (IM.out _ _ Qx.rd).mono ?_
    rintro e w16 ⟨vs, rfl, P2, hb⟩
    obtain ⟨R2_3, r2_3, rfl⟩ := shape_ChunkResult P2.rd
    try simp only [World.size_alloc] at P2
    have sz := hb.size
    try simp only [World.size_alloc] at sz
    replace KB := KB.below hb
    replace P1 := P1.below hb
    replace X1 := X1.below hb
    replace Qx := Qx.below hb
    replace XX := XX.below hb
    replace K := btr K hb
    clear hb
    have X2 := Blk.new w16 29 #[.int .i64 z.Code, .int .i64 z.Chunk_Kind, .int .i64 z.Chunk_Flags, .slice R2_3 z.Chunk_Body.length r2_3]
    replace KB := KB.alloc (.cells #[.int .i64 z.Code, .int .i64 z.Chunk_Kind, .int .i64 z.Chunk_Flags, .slice R2_3 z.Chunk_Body.length r2_3] 29)
    replace P1 := P1.below (bal (Below.refl _ _) (.cells #[.int .i64 z.Code, .int .i64 z.Chunk_Kind, .int .i64 z.Chunk_Flags, .slice R2_3 z.Chunk_Body.length r2_3] 29))
    replace X1 := X1.alloc (.cells #[.int .i64 z.Code, .int .i64 z.Chunk_Kind, .int .i64 z.Chunk_Flags, .slice R2_3 z.Chunk_Body.length r2_3] 29)
    replace Qx := Qx.below (bal (Below.refl _ _) (.cells #[.int .i64 z.Code, .int .i64 z.Chunk_Kind, .int .i64 z.Chunk_Flags, .slice R2_3 z.Chunk_Body.length r2_3] 29))
    replace XX := XX.alloc (.cells #[.int .i64 z.Code, .int .i64 z.Chunk_Kind, .int .i64 z.Chunk_Flags, .slice R2_3 z.Chunk_Body.length r2_3] 29)
    replace P2 := P2.below (bal (Below.refl _ _) (.cells #[.int .i64 z.Code, .int .i64 z.Chunk_Kind, .int .i64 z.Chunk_Flags, .slice R2_3 z.Chunk_Body.length r2_3] 29))
    replace K := bal K (.cells #[.int .i64 z.Code, .int .i64 z.Chunk_Kind, .int .i64 z.Chunk_Flags, .slice R2_3 z.Chunk_Body.length r2_3] 29)
    have p0 := X2.cell 0
    have p1 := X2.cell 1
    have p2 := X2.cell 2
    have p3 := X2.cell 3
    simp only [List.getElem?_toArray, List.getElem?_cons_succ, List.getElem?_cons_zero] at p0 p1 p2 p3
    have gp := X2.lt
    have q0 := X1.cell 0
    have q1 := X1.cell 1
    have q2 := X1.cell 2
    have q3 := X1.cell 3
    simp only [List.getElem?_toArray, List.getElem?_cons_succ, List.getElem?_cons_zero] at q0 q1 q2 q3
    have gq := X1.lt
    go_wp2_with fail
    clear p0 p1 p2 p3 gp
    clear q0 q1 q2 q3 gq
    refine (eqA_ChunkResult z P2.rd P1.rd).mono ?_
    rintro e w17 ⟨rfl, hb⟩
    have sz := hb.size
    try simp only [World.size_alloc] at sz
    replace KB := KB.below hb
    replace P1 := P1.below hb
    replace X1 := X1.below hb
    replace Qx := Qx.below hb
    replace XX := XX.below hb
    replace P2 := P2.below hb
    replace X2 := X2.below hb
    replace K := btr K hb
    clear hb
    go_wp2_with fail
    refine wp_region_any (by kernel_rfl) ?_
    refine regFnExactPackInit _ _ _ _ _ _ _ _ _ _ _ _ _ _ _ _ _ _ _ _ _ _ _ _ _ _ _ _ _ w17 _ _ y0 _ _ _ _ _ _ _ _ _ _ _ _ (fun u h => TO.out u (btr K h)) (fun u vs h k => eqA_Init y0 (RdA.below h Qx.rd) k) (by kernel_rfl) (by kernel_rfl) (by kernel_rfl) rfl (KB.below (Below.refl _ _).drew) (XX.below (Below.refl _ _).drew) ((Below.refl _ _).drew) (Below.refl _ _) ?_
    intros
    rename_i w18 m1 m2 m3 hb
    clear m1 m2 m3
    replace hb := (Below.refl _ _).drew.trans hb
    have sz := hb.size
    try simp only [World.size_alloc] at sz
    replace KB := KB.below hb
    replace P1 := P1.below hb
    replace X1 := X1.below hb
    replace Qx := Qx.below hb
    replace XX := XX.below hb
    replace P2 := P2.below hb
    replace X2 := X2.below hb
    replace K := btr K hb
    clear hb
    have p0 := XX.cell 0
    have p1 := XX.cell 1
    have p2 := XX.cell 2
    have p3 := XX.cell 3
    have p4 := XX.cell 4
    simp only [List.getElem?_toArray, List.getElem?_cons_succ, List.getElem?_cons_zero] at p0 p1 p2 p3 p4
    have gp := XX.lt
    go_wp2_with fail
    clear p0 p1 p2 p3 p4 gp
    refine (markA_Init y0 (S := Wn _ _) (k := 1) (Wn.sub (Nat.zero_le _) Qx.1) Qx.2 (by omega)).mono ?_
    rintro e w19 ⟨rfl, hc, _⟩
    have W := hc.win (fun _ _ h => h)
    clear hc
    have sz := W.size
    replace KB := Blk.win2 KB W (.inl (by omega))
    replace P1 := P1.win W (.inl (by omega))
    replace X1 := Blk.win2 X1 W (.inl (by omega))
    replace XX := Blk.win2 XX W (.inr (by omega))
    replace P2 := P2.win W (.inr (by omega))
    replace X2 := Blk.win2 X2 W (.inr (by omega))
    replace K := K.trans ((W.below (by omega)).mono (by omega))
    clear W
    clear Qx
    have kpos : ¬ (((1 + vcA y0.vs : Nat) : Int) < 0) := by omega
    have p0 := X2.cell 0
    have p1 := X2.cell 1
    have p2 := X2.cell 2
    have p3 := X2.cell 3
    simp only [List.getElem?_toArray, List.getElem?_cons_succ, List.getElem?_cons_zero] at p0 p1 p2 p3
    have gp := X2.lt
    have q0 := X1.cell 0
    have q1 := X1.cell 1
    have q2 := X1.cell 2
    have q3 := X1.cell 3
    simp only [List.getElem?_toArray, List.getElem?_cons_succ, List.getElem?_cons_zero] at q0 q1 q2 q3
    have gq := X1.lt
    go_wp2_with fail
    clear p0 p1 p2 p3 gp
    clear q0 q1 q2 q3 gq
    refine (eqA_ChunkResult z P2.rd P1.rd).mono ?_
    rintro e w20 ⟨rfl, hb⟩
    have sz := hb.size
    try simp only [World.size_alloc] at sz
    replace KB := KB.below hb
    replace P1 := P1.below hb
    replace X1 := X1.below hb
    replace XX := XX.below hb
    replace P2 := P2.below hb
    replace X2 := X2.below hb
    replace K := btr K hb
    clear hb
    clear kpos
    have p0 := X2.cell 0
    have p1 := X2.cell 1
    have p2 := X2.cell 2
    have p3 := X2.cell 3
    simp only [List.getElem?_toArray, List.getElem?_cons_succ, List.getElem?_cons_zero] at p0 p1 p2 p3
    have gp := X2.lt
    go_wp2_with fail
    clear p0 p1 p2 p3 gp
    refine (markA_ChunkResult z (S := Wn _ _) (k := 1) (Wn.sub (Nat.zero_le _) P2.1) P2.2 (by omega)).mono ?_
    rintro e w21 ⟨rfl, hc, ho⟩
    have W := hc.win (fun _ _ h => h)
    have M2 := And.intro (Nat.le_trans P2.1 hc.size) ho
    replace M2 : OwN _ _ _ _ _ := M2
    clear hc ho
    have sz := W.size
    replace KB := Blk.win2 KB W (.inl (by omega))
    replace P1 := P1.win W (.inl (by omega))
    replace X1 := Blk.win2 X1 W (.inl (by omega))
    replace XX := Blk.win2 XX W (.inl (by omega))
    replace X2 := Blk.win2 X2 W (.inr (by omega))
    replace K := K.trans ((W.below (by omega)).mono (by omega))
    clear W
    clear P2
    have p0 := X2.cell 0
    have p1 := X2.cell 1
    have p2 := X2.cell 2
    have p3 := X2.cell 3
    simp only [List.getElem?_toArray, List.getElem?_cons_succ, List.getElem?_cons_zero] at p0 p1 p2 p3
    have gp := X2.lt
    go_wp2_with fail
    clear p0 p1 p2 p3 gp
    refine (heldA_ChunkResult z (k := 1) M2.rd (by omega)).mono ?_
    rintro e w22 ⟨rfl, hb⟩
    have sz := hb.size
    try simp only [World.size_alloc] at sz
    replace KB := KB.below hb
    replace P1 := P1.below hb
    replace X1 := X1.below hb
    replace XX := XX.below hb
    replace X2 := X2.below hb
    replace M2 := M2.below hb
    replace K := btr K hb
    clear hb
    have kpos : ¬ (((1 + vcA z.vs : Nat) : Int) < 0) := by omega
    have p0 := KB.cell 0
    have p1 := KB.cell 1
    have p2 := KB.cell 2
    have p3 := KB.cell 3
    have p4 := KB.cell 4
    simp only [List.getElem?_toArray, List.getElem?_cons_succ, List.getElem?_cons_zero] at p0 p1 p2 p3 p4
    have gp := KB.lt
    go_wp2_with fail
    clear p0 p1 p2 p3 p4 gp
    refine (TO.out _ K).mono ?_
    rintro e w23 ⟨vs, rfl, Qh, hb⟩
    obtain ⟨Eh2, eh2, Eh3, eh3, Eh4, eh4, rfl⟩ := shape_Init Qh.rd
    try simp only [World.size_alloc] at Qh
    have sz := hb.size
    try simp only [World.size_alloc] at sz
    replace KB := KB.below hb
    replace P1 := P1.below hb
    replace X1 := X1.below hb
    replace XX := XX.below hb
    replace X2 := X2.below hb
    replace M2 := M2.below hb
    replace K := btr K hb
    clear hb
    go_wp2_with fail
    refine (IM.out _ _ Qh.rd).mono ?_
    rintro e w24 ⟨vs, rfl, P3, hb⟩
    obtain ⟨R3_3, r3_3, rfl⟩ := shape_ChunkResult P3.rd
    try simp only [World.size_alloc] at P3
    have sz := hb.size
    try simp only [World.size_alloc] at sz
    replace KB := KB.below hb
    replace P1 := P1.below hb
    replace X1 := X1.below hb
    replace XX := XX.below hb
    replace X2 := X2.below hb
    replace M2 := M2.below hb
    replace Qh := Qh.below hb
    replace K := btr K hb
    clear hb
    have X3 := Blk.new w24 29 #[.int .i64 z.Code, .int .i64 z.Chunk_Kind, .int .i64 z.Chunk_Flags, .slice R3_3 z.Chunk_Body.length r3_3]
    replace KB := KB.alloc (.cells #[.int .i64 z.Code, .int .i64 z.Chunk_Kind, .int .i64 z.Chunk_Flags, .slice R3_3 z.Chunk_Body.length r3_3] 29)
    replace P1 := P1.below (bal (Below.refl _ _) (.cells #[.int .i64 z.Code, .int .i64 z.Chunk_Kind, .int .i64 z.Chunk_Flags, .slice R3_3 z.Chunk_Body.length r3_3] 29))
    replace X1 := X1.alloc (.cells #[.int .i64 z.Code, .int .i64 z.Chunk_Kind, .int .i64 z.Chunk_Flags, .slice R3_3 z.Chunk_Body.length r3_3] 29)
    replace XX := XX.alloc (.cells #[.int .i64 z.Code, .int .i64 z.Chunk_Kind, .int .i64 z.Chunk_Flags, .slice R3_3 z.Chunk_Body.length r3_3] 29)
    replace X2 := X2.alloc (.cells #[.int .i64 z.Code, .int .i64 z.Chunk_Kind, .int .i64 z.Chunk_Flags, .slice R3_3 z.Chunk_Body.length r3_3] 29)
    replace M2 := M2.below (bal (Below.refl _ _) (.cells #[.int .i64 z.Code, .int .i64 z.Chunk_Kind, .int .i64 z.Chunk_Flags, .slice R3_3 z.Chunk_Body.length r3_3] 29))
    replace Qh := Qh.below (bal (Below.refl _ _) (.cells #[.int .i64 z.Code, .int .i64 z.Chunk_Kind, .int .i64 z.Chunk_Flags, .slice R3_3 z.Chunk_Body.length r3_3] 29))
    replace P3 := P3.below (bal (Below.refl _ _) (.cells #[.int .i64 z.Code, .int .i64 z.Chunk_Kind, .int .i64 z.Chunk_Flags, .slice R3_3 z.Chunk_Body.length r3_3] 29))
    replace K := bal K (.cells #[.int .i64 z.Code, .int .i64 z.Chunk_Kind, .int .i64 z.Chunk_Flags, .slice R3_3 z.Chunk_Body.length r3_3] 29)
    clear Qh
    have p0 := X3.cell 0
    have p1 := X3.cell 1
    have p2 := X3.cell 2
    have p3 := X3.cell 3
    simp only [List.getElem?_toArray, List.getElem?_cons_succ, List.getElem?_cons_zero] at p0 p1 p2 p3
    have gp := X3.lt
    have q0 := X1.cell 0
    have q1 := X1.cell 1
    have q2 := X1.cell 2
    have q3 := X1.cell 3
    simp only [List.getElem?_toArray, List.getElem?_cons_succ, List.getElem?_cons_zero] at q0 q1 q2 q3
    have gq := X1.lt
    go_wp2_with fail
    clear p0 p1 p2 p3 gp
    clear q0 q1 q2 q3 gq
    refine (eqA_ChunkResult z P3.rd P1.rd).mono ?_
    rintro e w25 ⟨rfl, hb⟩
    have sz := hb.size
    try simp only [World.size_alloc] at sz
    replace KB := KB.below hb
    replace P1 := P1.below hb
    replace X1 := X1.below hb
    replace XX := XX.below hb
    replace X2 := X2.below hb
    replace M2 := M2.below hb
    replace P3 := P3.below hb
    replace X3 := X3.below hb
    replace K := btr K hb
    clear hb
    clear P3
    clear X3
    clear P1
    clear X1
    clear kpos
    have p0 := X2.cell 0
    have p1 := X2.cell 1
    have p2 := X2.cell 2
    have p3 := X2.cell 3
    simp only [List.getElem?_toArray, List.getElem?_cons_succ, List.getElem?_cons_zero] at p0 p1 p2 p3
    have gp := X2.lt
    go_wp2_with fail
    clear p0 p1 p2 p3 gp
    refine (heldA_ChunkResult z (k := 1) M2.rd (by omega)).mono ?_
    rintro e w26 ⟨rfl, hb⟩
    have sz := hb.size
    try simp only [World.size_alloc] at sz
    replace KB := KB.below hb
    replace XX := XX.below hb
    replace X2 := X2.below hb
    replace M2 := M2.below hb
    replace K := btr K hb
    clear hb
    have kpos : ¬ (((1 + vcA z.vs : Nat) : Int) < 0) := by omega
    go_wp2
    go_ret
    exact ⟨rfl, K⟩

/-- An input that the row's conditions hold of: the witness laid as theorems of their own (inside the refine Lean does not come to an end). -/
def wit : Input := ⟨#[], #[.agg #[.int .i64 0, .int .i64 0, .slice none 0 0, .slice none 0 0, .slice none 0 0], .int .i64 0], []⟩
theorem wit1 (os : Os) : (World.plainHolding Try.checked.prog os wit).variablesB Try.checked.prog = true := by kernel_rfl
theorem wit2 (os : Os) : ((World.plainHolding Try.checked.prog os wit).heap.toList.drop Try.checked.prog.globals.size).take ((begin Try.checked.prog (fun _ _ => 0) default).world.heap.size - Try.checked.prog.globals.size) =
    (begin Try.checked.prog (fun _ _ => 0) default).world.heap.toList.drop Try.checked.prog.globals.size := by kernel_rfl
theorem wit3 (os : Os) : Input.okWideB Try.checked.prog (World.plainHolding Try.checked.prog os wit) 5 ⟨#[], wit.args, []⟩ = true := by kernel_rfl
theorem wit4 (os : Os) (H : Type) (enc : TypeId × Value → H) : Rows.fnExactPackInitSpec.preB enc Try.checked.prog Try.f5 Rows.fnExactPackInitRow.domain false (World.plainHolding Try.checked.prog os wit).memory wit.args 8 = true := by kernel_rfl
theorem wit5 (os : Os) (H : Type) (enc : TypeId × Value → H) : Rows.fnExactPackInitSpec.sizedB enc Try.checked.prog Try.f5 false (World.plainHolding Try.checked.prog os wit).memory wit.args 8 = true := by kernel_rfl

/-! ### THE ROW's STEP: WRITTEN OUT: LEAVE IT -/
set_option maxRecDepth 100000 in
theorem lifted (os : Os) (started : os.Started) (H : Type) (enc : TypeId × Value → H) :
    ReturnsInHanded {} Try.checked os 5 .any (Rows.fnExactPackInitSpec.pre6 enc Try.prog Try.f5 Rows.fnExactPackInitRow.domain false) (Rows.fnExactPackInitSpec.post enc Try.prog Try.f5 false true false false) := by
  have hw := ChangeSpec.witness6 (enc := enc) (C := Try.checked) (fn := Try.f5) (s := Rows.fnExactPackInitSpec) (conds := Rows.fnExactPackInitRow.domain) (apart := false) false wit 8 (wit1 os) (wit2 os) (wit3 os) (wit4 os H enc) (wit5 os H enc)
  refine returnsInHanded_of_change (C := Try.checked) own started (by kernel_rfl) Try.func5 hw ?_
  intro W base args ds gs before hval0 hW hcnd _
  have hval : ∀ (j : Nat) t v, Try.f5.params[j]? = some t → args[j]? = some v → Value.okWide Try.prog W .any base t v := hval0
  have hW' := hW
  obtain ⟨p, q, hA0, hV, rfl, hfz, hnd⟩ := hW
  have hA : DataW.TrodAll enc Try.prog W 0 (fun _ => true) true Try.f5.params.toList args.toList ds p := hA0
  rw [Try.params5] at hA hval
  obtain ⟨v0, vs0, d0, ds0, p0, q0, hargs, rfl, rfl, h0, r0⟩ := trodAll_cons hA
  obtain ⟨v1, vs1, d1, ds1, p1, q1, rfl, rfl, rfl, h1, r1⟩ := trodAll_cons r0
  obtain ⟨rfl, rfl, rfl⟩ := trodAll_nil r1
  obtain rfl : args = #[v0, v1] := by cases args; simp_all
  obtain ⟨rfl, rfl⟩ := trodVars_none hV
  obtain ⟨cells0, rfl, hsz0⟩ := okWide_struct Try.underlying52 (hval 0 52 v0 rfl rfl)
  have k0 := h0
  have lt0 : ∀ x ∈ p0, x.block < W.heap.size := by obtain ⟨m, hm⟩ := k0; exact DataW.trod_lt m _ _ _ hm
  obtain ⟨y0, A0_2, c0_2, A0_3, c0_3, A0_4, c0_4, rfl, wr0, wf0⟩ := opened_Init h0
  have w0 := And.intro wr0 wf0
  have k1 := h1
  have lt1 : ∀ x ∈ p1, x.block < W.heap.size := by obtain ⟨m, hm⟩ := k1; exact DataW.trod_lt m _ _ _ hm
  obtain ⟨j1, rfl⟩ := okWide_int Try.underlying2 (hval 1 2 v1 rfl rfl)
  have w1 := trivial
  clear hA0 hval0
  refine (walk y0 A0_2 c0_2 A0_3 c0_3 A0_4 c0_4 j1 W w0 w1).mono fun e W' ⟨he, bel⟩ => ?_
  subst he
  exact ⟨_, rfl, _, _, _, [], _, [], hW', trodAll_mk1 (shut_bool Try.underlying4 _), (trodAll_cons_mk (Below.trod laidOut (by kernel_rfl) (of_decide_eq_true (by kernel_rfl)) k0 bel lt0) (trodAll_cons_mk (Below.trod laidOut (by kernel_rfl) (of_decide_eq_true (by kernel_rfl)) k1 bel lt1) trodAll_mk0)), rfl, bel.frame _, fun h => by cases h⟩

theorem over : Rows.fnExactPackInitRow.holds Try.pinned (OpenSpec.ofChange Rows.fnExactPackInitSpec) :=
  OpenClaim.holds_of_wide 5 Try.f5 rfl rfl rfl rfl rfl rfl rfl ⟨rfl, rfl, rfl, rfl, rfl⟩ rfl rfl rfl rfl rfl (by kernel_rfl) Try.func5 (by kernel_rfl)
    (of_decide_eq_true (by kernel_rfl)) (by unfold Func.isWrapper; first | (rw [if_pos (by decide +kernel)]; kernel_rfl) | (rw [if_neg (by decide +kernel)]; exact ⟨rfl, rfl⟩))
    (fun os started H enc _ => lifted os started H enc)

/-- ████ THE STATEMENT ████ -/
theorem proved : Rows.FnExactPackInitSaid := over
#print axioms proved
end Go.Proofs.Ytgghelpbobbkgaa.fnExactPackInit
