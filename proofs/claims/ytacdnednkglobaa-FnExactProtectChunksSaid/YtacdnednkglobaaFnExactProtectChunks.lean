/- At every id, key and list of chunks the program's ProtectChunks answers as its model does, in memory of its own, it leaves its arguments as they were, and the law FnExactProtectChunks answers true. -/
import Derived.Test.YtacdnednkglobaaRows
import Derived.Test.YtacdnednkglobaaS7L
import Derived.Test.YtacdnednkglobaaS7G
import Derived.Test.YtacdnednkglobaaMa3
import Derived.Test.YtacdnednkglobaaMa7
import Derived.WalkSpells
import Derived.WalkLawsBesides
import Derived.WalkKit
import Derived.ProofKit
import Derived.OpenShut
import Derived.ShutString
import Derived.ChangeOld
import Derived.Below
namespace Go.Proofs.Ytacdnednkglobaa.fnExactProtectChunks
open Go.ChangeShapes Go.WideShapes Go.ChangeAt Go.RowKit
open Go.ChangeMaps (open_string shut_string)
set_option linter.unusedVariables false

theorem own : ownKnob Try.prog.godebug = none := by kernel_rfl
theorem laidOut : laidOutB Try.prog = true := by kernel_rfl

/-- WHAT THE WALK IS TOLD OF A SLICE OF INTEGERS THAT CAME IN: it is nil; or it leads to a row of 'cap' cells, the numbers 'zs' (the first 'len' are its elements, the rest its spare room), each fitting its kind. -/
def IsRow (k : IntKind) (w : World) (a : Option Addr) (len cap : Nat) (zs : List Int) : Prop :=
  (a = none ∧ len = 0 ∧ cap = 0 ∧ zs = []) ∨
  ∃ x, a = some x ∧ len ≤ cap ∧ cap ≤ maxLen ∧ zs.length = cap ∧ (∀ i, i < zs.length → w.cell? (x.add i) = some (.int k (zs.getD i 0))) ∧ ∀ n ∈ zs, (Lit.int k n).wf = true


set_option maxRecDepth 100000 in
set_option maxHeartbeats 4000000 in
theorem walk (j0 : Int) (l1 : List Int) (A1 : Option Addr) (c1 : Nat) (r2 : List ChunkM) (A2 : Option Addr) (c2 : Nat) (w : World) (w0 : WfV (.int j0)) (w1 : Rd w (.bs l1) (.slice A1 l1.length c1) ∧ WfV (.bs l1)) (w2 : Rd w (st_Chunk r2) (.slice A2 r2.length c2) ∧ WfV (st_Chunk r2)) :
    Calls Try.prog 5 #[.int .i64 j0, .slice A1 l1.length c1, .slice A2 r2.length c2] w fun e w' => e = .returned (.bool true) ∧ Below w.heap.size w w' := by
  obtain ⟨hr1, hwf1⟩ := w1
  obtain ⟨hr2, hwf2⟩ := w2
  have K : Below w.heap.size w w := Below.refl _ _
  by_cases hbig1 : (1048576 : Int) < (l1.length : Int)
  · go_enter Try.func5, Try.ntmps5
    go_wp2
    go_ret
    exact ⟨rfl, by exact Below.refl _ _⟩
  have ht1 : tot (.bs l1) ≤ 1048576 := by simp only [tot]; omega
  have hlen1 : (l1.length : Int) ≤ 1048576 := by omega
  clear hbig1
  have HRD1 := hidH (fun (u : World) (h : Below w.heap.size w u) => Rd.below h _ hr1)
  have HWF1 := hidH hwf1
  have HRD2 := hidH (fun (u : World) (h : Below w.heap.size w u) => Rd.below h _ hr2)
  have HWF2 := hidH hwf2
  clear hr1 hwf1 hr2 hwf2
  go_enter Try.func5, Try.ntmps5
  go_wp2_with fail
  refine (szS_Chunk r2 _ 1048576 _ (HRD2.out _ K) (by omega) (by omega)).mono ?_
  rintro e w11 ⟨z2, rfl, hz2, hb⟩
  have sz := hb.size
  try simp only [World.size_alloc] at sz
  replace K := btr K hb
  clear hb
  have HZ2 := hidH hz2
  clear hz2
  by_cases h0 : z2 < 0
  · go_wp2
    go_ret
    exact ⟨rfl, K⟩
  · have ht2 : tot (st_Chunk r2) ≤ 1048576 := by have := HZ2.out.2.2 (by omega); omega
    have hzp2 : 0 ≤ z2 := by omega
    have hzl2 : z2 ≤ 1048576 := by have := HZ2.out.2.1; omega
    clear h0
    have hlen := pcR_len j0 l1 r2 w0 HWF1.out ht1 HWF2.out ht2
    have hcn1 : cc (.bs l1) ≤ 1000000000 := by simp only [cc]; omega
    have hcn2 : cc (st_Chunk r2) ≤ 1000000000 := by
      have h1 := ccS_Chunk r2
      have h2 : r2.length + tot.totL (r2.flatMap ChunkM.vs) ≤ 1048576 := ht2
      show cc.ccL (r2.flatMap ChunkM.vs) ≤ _
      omega
    have TO1 := hidH (fun (u : World) (h : Below w.heap.size w u) => toB_rd l1 _ u (HRD1.out u h) ht1)
    have TO2 := hidH (fun (u : World) (h : Below w.heap.size w u) => toS_Chunk r2 _ u (HRD2.out u h) ht2)
    have SP := hidH (fun (u : World) (v1 : Value) (v2 : Value) (h1 : Rd u (.bs l1) v1) (h2 : Rd u (st_Chunk r2) v2) => pc_spec j0 l1 v1 r2 v2 u w0 h1 HWF1.out ht1 h2 HWF2.out ht2)
    have IM := hidH (fun (u : World) (v1 : Value) (v2 : Value) (h1 : Rd u (.bs l1) v1) (h2 : Rd u (st_Chunk r2) v2) => pc_impl j0 l1 v1 r2 v2 u w0 h1 HWF1.out ht1 h2 HWF2.out ht2)
    obtain ⟨z, hz⟩ : ∃ z, pcR j0 l1 r2 = z := ⟨_, rfl⟩
    rw [hz] at SP IM hlen
    clear hz ht1 ht2
    clear HZ2
    go_wp2_with fail
    refine (TO1.out _ K).mono ?_
    rintro e w12 ⟨vs, rfl, Qa1, hb⟩
    obtain ⟨Ea1, ea1, rfl⟩ := Qa1.rd.bs_sh
    try simp only [World.size_alloc] at Qa1
    have sz := hb.size
    try simp only [World.size_alloc] at sz
    replace K := btr K hb
    clear hb
    go_wp2_with fail
    refine (TO2.out _ K).mono ?_
    rintro e w13 ⟨vs, rfl, Qa2, hb⟩
    obtain ⟨Ea2, ea2, rfl⟩ := st_Chunk_sh Qa2.rd
    try simp only [World.size_alloc] at Qa2
    have sz := hb.size
    try simp only [World.size_alloc] at sz
    replace Qa1 := Qa1.below hb
    replace K := btr K hb
    clear hb
    go_wp2_with fail
    refine (SP.out _ _ _ Qa1.rd Qa2.rd).mono ?_
    rintro e w14 ⟨vs, rfl, P1, hb⟩
    obtain ⟨R1_1, r1_1, rfl⟩ := shape_ChunksResult P1.rd
    try simp only [World.size_alloc] at P1
    have sz := hb.size
    try simp only [World.size_alloc] at sz
    replace Qa1 := Qa1.below hb
    replace Qa2 := Qa2.below hb
    replace K := btr K hb
    clear hb
    have X1 := Blk.new w14 37 #[.int .i64 z.Code, .slice R1_1 z.Chunks.length r1_1]
    replace Qa1 := Qa1.below (bal (Below.refl _ _) (.cells #[.int .i64 z.Code, .slice R1_1 z.Chunks.length r1_1] 37))
    replace Qa2 := Qa2.below (bal (Below.refl _ _) (.cells #[.int .i64 z.Code, .slice R1_1 z.Chunks.length r1_1] 37))
    replace P1 := P1.below (bal (Below.refl _ _) (.cells #[.int .i64 z.Code, .slice R1_1 z.Chunks.length r1_1] 37))
    replace K := bal K (.cells #[.int .i64 z.Code, .slice R1_1 z.Chunks.length r1_1] 37)
    clear Qa1
    clear Qa2
    go_wp2_with fail
    refine (TO1.out _ K).mono ?_
    rintro e w15 ⟨vs, rfl, Qx1, hb⟩
    obtain ⟨Ex1, ex1, rfl⟩ := Qx1.rd.bs_sh
    try simp only [World.size_alloc] at Qx1
    have sz := hb.size
    try simp only [World.size_alloc] at sz
    replace P1 := P1.below hb
    replace X1 := X1.below hb
    replace K := btr K hb
    clear hb
    go_wp2_with fail
    refine (TO2.out _ K).mono ?_
    rintro e w16 ⟨vs, rfl, Qx2, hb⟩
    obtain ⟨Ex2, ex2, rfl⟩ := st_Chunk_sh Qx2.rd
    try simp only [World.size_alloc] at Qx2
    have sz := hb.size
    try simp only [World.size_alloc] at sz
    replace P1 := P1.below hb
    replace X1 := X1.below hb
    replace Qx1 := Qx1.below hb
    replace K := btr K hb
    clear hb
    go_wp2_with fail
    refine (IM.out _ _ _ Qx1.rd Qx2.rd).mono ?_
    rintro e w17 ⟨vs, rfl, P2, hb⟩
    obtain ⟨R2_1, r2_1, rfl⟩ := shape_ChunksResult P2.rd
    try simp only [World.size_alloc] at P2
    have sz := hb.size
    try simp only [World.size_alloc] at sz
    replace P1 := P1.below hb
    replace X1 := X1.below hb
    replace Qx1 := Qx1.below hb
    replace Qx2 := Qx2.below hb
    replace K := btr K hb
    clear hb
    have X2 := Blk.new w17 37 #[.int .i64 z.Code, .slice R2_1 z.Chunks.length r2_1]
    replace P1 := P1.below (bal (Below.refl _ _) (.cells #[.int .i64 z.Code, .slice R2_1 z.Chunks.length r2_1] 37))
    replace X1 := X1.alloc (.cells #[.int .i64 z.Code, .slice R2_1 z.Chunks.length r2_1] 37)
    replace Qx1 := Qx1.below (bal (Below.refl _ _) (.cells #[.int .i64 z.Code, .slice R2_1 z.Chunks.length r2_1] 37))
    replace Qx2 := Qx2.below (bal (Below.refl _ _) (.cells #[.int .i64 z.Code, .slice R2_1 z.Chunks.length r2_1] 37))
    replace P2 := P2.below (bal (Below.refl _ _) (.cells #[.int .i64 z.Code, .slice R2_1 z.Chunks.length r2_1] 37))
    replace K := bal K (.cells #[.int .i64 z.Code, .slice R2_1 z.Chunks.length r2_1] 37)
    have p0 := X2.cell 0
    have p1 := X2.cell 1
    simp only [List.getElem?_toArray, List.getElem?_cons_succ, List.getElem?_cons_zero] at p0 p1
    have gp := X2.lt
    have q0 := X1.cell 0
    have q1 := X1.cell 1
    simp only [List.getElem?_toArray, List.getElem?_cons_succ, List.getElem?_cons_zero] at q0 q1
    have gq := X1.lt
    go_wp2_with fail
    clear p0 p1 gp
    clear q0 q1 gq
    refine (eqA_ChunksResult z P2.rd P1.rd).mono ?_
    rintro e w18 ⟨rfl, hb⟩
    have sz := hb.size
    try simp only [World.size_alloc] at sz
    replace P1 := P1.below hb
    replace X1 := X1.below hb
    replace Qx1 := Qx1.below hb
    replace Qx2 := Qx2.below hb
    replace P2 := P2.below hb
    replace X2 := X2.below hb
    replace K := btr K hb
    clear hb
    go_wp2_with fail
    refine (TO1.out _ K).mono ?_
    rintro e w19 ⟨vs, rfl, Qe1, hb⟩
    obtain ⟨Ee1, ee1, rfl⟩ := Qe1.rd.bs_sh
    try simp only [World.size_alloc] at Qe1
    have sz := hb.size
    try simp only [World.size_alloc] at sz
    replace P1 := P1.below hb
    replace X1 := X1.below hb
    replace Qx1 := Qx1.below hb
    replace Qx2 := Qx2.below hb
    replace P2 := P2.below hb
    replace X2 := X2.below hb
    replace K := btr K hb
    clear hb
    go_wp2_with fail
    refine (eqB_rd l1 _ _ _ Qx1.rd Qe1.rd).mono ?_
    rintro e w20 ⟨rfl, hb⟩
    have sz := hb.size
    try simp only [World.size_alloc] at sz
    replace P1 := P1.below hb
    replace X1 := X1.below hb
    replace Qx1 := Qx1.below hb
    replace Qx2 := Qx2.below hb
    replace P2 := P2.below hb
    replace X2 := X2.below hb
    replace Qe1 := Qe1.below hb
    replace K := btr K hb
    clear hb
    clear Qe1
    go_wp2_with fail
    refine (TO2.out _ K).mono ?_
    rintro e w21 ⟨vs, rfl, Qe2, hb⟩
    obtain ⟨Ee2, ee2, rfl⟩ := st_Chunk_sh Qe2.rd
    try simp only [World.size_alloc] at Qe2
    have sz := hb.size
    try simp only [World.size_alloc] at sz
    replace P1 := P1.below hb
    replace X1 := X1.below hb
    replace Qx1 := Qx1.below hb
    replace Qx2 := Qx2.below hb
    replace P2 := P2.below hb
    replace X2 := X2.below hb
    replace K := btr K hb
    clear hb
    go_wp2_with fail
    refine (eqS_Chunk r2 _ _ _ Qx2.rd Qe2.rd).mono ?_
    rintro e w22 ⟨rfl, hb⟩
    have sz := hb.size
    try simp only [World.size_alloc] at sz
    replace P1 := P1.below hb
    replace X1 := X1.below hb
    replace Qx1 := Qx1.below hb
    replace Qx2 := Qx2.below hb
    replace P2 := P2.below hb
    replace X2 := X2.below hb
    replace Qe2 := Qe2.below hb
    replace K := btr K hb
    clear hb
    clear Qe2
    go_wp2_with fail
    refine (markB_ow l1 (Wn _ _) _ (1) _ Qx1.2 (by omega)).mono ?_
    rintro e w23 ⟨rfl, hc, _⟩
    have W := hc.win (fun _ _ h => h)
    clear hc
    have sz := W.size
    replace P1 := P1.win W (.inl (by omega))
    replace X1 := Blk.win2 X1 W (.inl (by omega))
    replace Qx2 := Qx2.win W (.inr (by omega))
    replace P2 := P2.win W (.inr (by omega))
    replace X2 := Blk.win2 X2 W (.inr (by omega))
    replace K := K.trans ((W.below (by omega)).mono (by omega))
    clear W
    clear Qx1
    go_wp2_with fail
    refine (markS_Chunk r2 (Wn _ _) _ (1 + cc (.bs l1)) _ Qx2.2 (by omega)).mono ?_
    rintro e w24 ⟨rfl, hc, _⟩
    have W := hc.win (fun _ _ h => h)
    clear hc
    have sz := W.size
    replace P1 := P1.win W (.inl (by omega))
    replace X1 := Blk.win2 X1 W (.inl (by omega))
    replace P2 := P2.win W (.inr (by omega))
    replace X2 := Blk.win2 X2 W (.inr (by omega))
    replace K := K.trans ((W.below (by omega)).mono (by omega))
    clear W
    clear Qx2
    have kpos : ¬ (((1 + cc (.bs l1) + cc (st_Chunk r2) : Nat) : Int) < 0) := by omega
    have p0 := X2.cell 0
    have p1 := X2.cell 1
    simp only [List.getElem?_toArray, List.getElem?_cons_succ, List.getElem?_cons_zero] at p0 p1
    have gp := X2.lt
    have q0 := X1.cell 0
    have q1 := X1.cell 1
    simp only [List.getElem?_toArray, List.getElem?_cons_succ, List.getElem?_cons_zero] at q0 q1
    have gq := X1.lt
    go_wp2_with fail
    clear p0 p1 gp
    clear q0 q1 gq
    refine (eqA_ChunksResult z P2.rd P1.rd).mono ?_
    rintro e w25 ⟨rfl, hb⟩
    have sz := hb.size
    try simp only [World.size_alloc] at sz
    replace P1 := P1.below hb
    replace X1 := X1.below hb
    replace P2 := P2.below hb
    replace X2 := X2.below hb
    replace K := btr K hb
    clear hb
    clear kpos
    have p0 := X2.cell 0
    have p1 := X2.cell 1
    simp only [List.getElem?_toArray, List.getElem?_cons_succ, List.getElem?_cons_zero] at p0 p1
    have gp := X2.lt
    go_wp2_with fail
    clear p0 p1 gp
    refine (markA_ChunksResult z (S := Wn _ _) (k := 1) (Wn.sub (Nat.zero_le _) P2.1) P2.2 (by omega)).mono ?_
    rintro e w26 ⟨rfl, hc, ho⟩
    have W := hc.win (fun _ _ h => h)
    have M2 := And.intro (Nat.le_trans P2.1 hc.size) ho
    replace M2 : OwN _ _ _ _ _ := M2
    clear hc ho
    have sz := W.size
    replace P1 := P1.win W (.inl (by omega))
    replace X1 := Blk.win2 X1 W (.inl (by omega))
    replace X2 := Blk.win2 X2 W (.inr (by omega))
    replace K := K.trans ((W.below (by omega)).mono (by omega))
    clear W
    clear P2
    have p0 := X2.cell 0
    have p1 := X2.cell 1
    simp only [List.getElem?_toArray, List.getElem?_cons_succ, List.getElem?_cons_zero] at p0 p1
    have gp := X2.lt
    go_wp2_with fail
    clear p0 p1 gp
    refine (heldA_ChunksResult z (k := 1) M2.rd (by omega)).mono ?_
    rintro e w27 ⟨rfl, hb⟩
    have sz := hb.size
    try simp only [World.size_alloc] at sz
    replace P1 := P1.below hb
    replace X1 := X1.below hb
    replace X2 := X2.below hb
    replace M2 := M2.below hb
    replace K := btr K hb
    clear hb
    have kpos : ¬ (((1 + vcA z.vs : Nat) : Int) < 0) := by omega
    go_wp2_with fail
    refine (TO1.out _ K).mono ?_
    rintro e w28 ⟨vs, rfl, Qh1, hb⟩
    obtain ⟨Eh1, eh1, rfl⟩ := Qh1.rd.bs_sh
    try simp only [World.size_alloc] at Qh1
    have sz := hb.size
    try simp only [World.size_alloc] at sz
    replace P1 := P1.below hb
    replace X1 := X1.below hb
    replace X2 := X2.below hb
    replace M2 := M2.below hb
    replace K := btr K hb
    clear hb
    go_wp2_with fail
    refine (TO2.out _ K).mono ?_
    rintro e w29 ⟨vs, rfl, Qh2, hb⟩
    obtain ⟨Eh2, eh2, rfl⟩ := st_Chunk_sh Qh2.rd
    try simp only [World.size_alloc] at Qh2
    have sz := hb.size
    try simp only [World.size_alloc] at sz
    replace P1 := P1.below hb
    replace X1 := X1.below hb
    replace X2 := X2.below hb
    replace M2 := M2.below hb
    replace Qh1 := Qh1.below hb
    replace K := btr K hb
    clear hb
    go_wp2_with fail
    refine (IM.out _ _ _ Qh1.rd Qh2.rd).mono ?_
    rintro e w30 ⟨vs, rfl, P3, hb⟩
    obtain ⟨R3_1, r3_1, rfl⟩ := shape_ChunksResult P3.rd
    try simp only [World.size_alloc] at P3
    have sz := hb.size
    try simp only [World.size_alloc] at sz
    replace P1 := P1.below hb
    replace X1 := X1.below hb
    replace X2 := X2.below hb
    replace M2 := M2.below hb
    replace Qh1 := Qh1.below hb
    replace Qh2 := Qh2.below hb
    replace K := btr K hb
    clear hb
    have X3 := Blk.new w30 37 #[.int .i64 z.Code, .slice R3_1 z.Chunks.length r3_1]
    replace P1 := P1.below (bal (Below.refl _ _) (.cells #[.int .i64 z.Code, .slice R3_1 z.Chunks.length r3_1] 37))
    replace X1 := X1.alloc (.cells #[.int .i64 z.Code, .slice R3_1 z.Chunks.length r3_1] 37)
    replace X2 := X2.alloc (.cells #[.int .i64 z.Code, .slice R3_1 z.Chunks.length r3_1] 37)
    replace M2 := M2.below (bal (Below.refl _ _) (.cells #[.int .i64 z.Code, .slice R3_1 z.Chunks.length r3_1] 37))
    replace Qh1 := Qh1.below (bal (Below.refl _ _) (.cells #[.int .i64 z.Code, .slice R3_1 z.Chunks.length r3_1] 37))
    replace Qh2 := Qh2.below (bal (Below.refl _ _) (.cells #[.int .i64 z.Code, .slice R3_1 z.Chunks.length r3_1] 37))
    replace P3 := P3.below (bal (Below.refl _ _) (.cells #[.int .i64 z.Code, .slice R3_1 z.Chunks.length r3_1] 37))
    replace K := bal K (.cells #[.int .i64 z.Code, .slice R3_1 z.Chunks.length r3_1] 37)
    clear Qh1
    clear Qh2
    have p0 := X3.cell 0
    have p1 := X3.cell 1
    simp only [List.getElem?_toArray, List.getElem?_cons_succ, List.getElem?_cons_zero] at p0 p1
    have gp := X3.lt
    have q0 := X1.cell 0
    have q1 := X1.cell 1
    simp only [List.getElem?_toArray, List.getElem?_cons_succ, List.getElem?_cons_zero] at q0 q1
    have gq := X1.lt
    go_wp2_with fail
    clear p0 p1 gp
    clear q0 q1 gq
    refine (eqA_ChunksResult z P3.rd P1.rd).mono ?_
    rintro e w31 ⟨rfl, hb⟩
    have sz := hb.size
    try simp only [World.size_alloc] at sz
    replace P1 := P1.below hb
    replace X1 := X1.below hb
    replace X2 := X2.below hb
    replace M2 := M2.below hb
    replace P3 := P3.below hb
    replace X3 := X3.below hb
    replace K := btr K hb
    clear hb
    clear P3
    clear X3
    clear P1
    clear X1
    clear kpos
    have p0 := X2.cell 0
    have p1 := X2.cell 1
    simp only [List.getElem?_toArray, List.getElem?_cons_succ, List.getElem?_cons_zero] at p0 p1
    have gp := X2.lt
    go_wp2_with fail
    clear p0 p1 gp
    refine (heldA_ChunksResult z (k := 1) M2.rd (by omega)).mono ?_
    rintro e w32 ⟨rfl, hb⟩
    have sz := hb.size
    try simp only [World.size_alloc] at sz
    replace X2 := X2.below hb
    replace M2 := M2.below hb
    replace K := btr K hb
    clear hb
    have kpos : ¬ (((1 + vcA z.vs : Nat) : Int) < 0) := by omega
    go_wp2
    go_ret
    exact ⟨rfl, K⟩

/-- An input that the row's conditions hold of: the witness laid as theorems of their own (inside the refine Lean does not come to an end). -/
def wit : Input := ⟨#[], #[.int .i64 0, .slice none 0 0, .slice none 0 0], []⟩
theorem wit1 (os : Os) : (World.plainHolding Try.checked.prog os wit).variablesB Try.checked.prog = true := by kernel_rfl
theorem wit2 (os : Os) : ((World.plainHolding Try.checked.prog os wit).heap.toList.drop Try.checked.prog.globals.size).take ((begin Try.checked.prog (fun _ _ => 0) default).world.heap.size - Try.checked.prog.globals.size) =
    (begin Try.checked.prog (fun _ _ => 0) default).world.heap.toList.drop Try.checked.prog.globals.size := by kernel_rfl
theorem wit3 (os : Os) : Input.okWideB Try.checked.prog (World.plainHolding Try.checked.prog os wit) 5 ⟨#[], wit.args, []⟩ = true := by kernel_rfl
theorem wit4 (os : Os) (H : Type) (enc : TypeId × Value → H) : Rows.fnExactProtectChunksSpec.preB enc Try.checked.prog Try.f5 Rows.fnExactProtectChunksRow.domain false (World.plainHolding Try.checked.prog os wit).memory wit.args 8 = true := by kernel_rfl
theorem wit5 (os : Os) (H : Type) (enc : TypeId × Value → H) : Rows.fnExactProtectChunksSpec.sizedB enc Try.checked.prog Try.f5 false (World.plainHolding Try.checked.prog os wit).memory wit.args 8 = true := by kernel_rfl

/-! ### THE ROW's STEP: WRITTEN OUT: LEAVE IT -/
set_option maxRecDepth 100000 in
theorem lifted (os : Os) (started : os.Started) (H : Type) (enc : TypeId × Value → H) :
    ReturnsInHanded {} Try.checked os 5 .any (Rows.fnExactProtectChunksSpec.pre6 enc Try.prog Try.f5 Rows.fnExactProtectChunksRow.domain false) (Rows.fnExactProtectChunksSpec.post enc Try.prog Try.f5 false true false false) := by
  have hw := ChangeSpec.witness6 (enc := enc) (C := Try.checked) (fn := Try.f5) (s := Rows.fnExactProtectChunksSpec) (conds := Rows.fnExactProtectChunksRow.domain) (apart := false) false wit 8 (wit1 os) (wit2 os) (wit3 os) (wit4 os H enc) (wit5 os H enc)
  refine returnsInHanded_of_change (C := Try.checked) own started (by kernel_rfl) Try.func5 hw ?_
  intro W base args ds gs before hval0 hW hcnd _
  have hval : ∀ (j : Nat) t v, Try.f5.params[j]? = some t → args[j]? = some v → Value.okWide Try.prog W .any base t v := hval0
  have hW' := hW
  obtain ⟨p, q, hA0, hV, rfl, hfz, hnd⟩ := hW
  have hA : DataW.TrodAll enc Try.prog W 0 (fun _ => true) true Try.f5.params.toList args.toList ds p := hA0
  rw [Try.params5] at hA hval
  obtain ⟨v0, vs0, d0, ds0, p0, q0, hargs, rfl, rfl, h0, r0⟩ := trodAll_cons hA
  obtain ⟨v1, vs1, d1, ds1, p1, q1, rfl, rfl, rfl, h1, r1⟩ := trodAll_cons r0
  obtain ⟨v2, vs2, d2, ds2, p2, q2, rfl, rfl, rfl, h2, r2⟩ := trodAll_cons r1
  obtain ⟨rfl, rfl, rfl⟩ := trodAll_nil r2
  obtain rfl : args = #[v0, v1, v2] := by cases args; simp_all
  obtain ⟨rfl, rfl⟩ := trodVars_none hV
  have k0 := h0
  have lt0 : ∀ x ∈ p0, x.block < W.heap.size := by obtain ⟨m, hm⟩ := k0; exact DataW.trod_lt m _ _ _ hm
  obtain ⟨j0, rfl⟩ := okWide_int Try.underlying2 (hval 0 2 v0 rfl rfl)
  have w0 : WfV (.int j0) := by
    obtain ⟨fuel, hf⟩ := h0
    obtain ⟨n0, e0, _, wf0⟩ := DataW.trod_int Try.underlying2 hf
    obtain rfl : j0 = n0 := by simpa [Value.cells] using e0
    exact wf_int wf0
  obtain ⟨aa1, ll1, cc1, rfl⟩ := okWide_slice Try.underlying25 (hval 1 25 v1 rfl rfl)
  have k1 := h1
  have lt1 : ∀ x ∈ p1, x.block < W.heap.size := by obtain ⟨m, hm⟩ := k1; exact DataW.trod_lt m _ _ _ hm
  obtain ⟨lz1, Az1, cz1, ez1, w1⟩ : ∃ (l : List Int) (A : Option Addr) (c : Nat), Value.slice aa1 ll1 cc1 = .slice A l.length c ∧ Rd W (.bs l) (.slice A l.length c) ∧ WfV (.bs l) := by
    obtain ⟨fuel, hf⟩ := h1
    obtain ⟨l, hr, hw⟩ := open_bs (v := .slice aa1 ll1 cc1) hf
    obtain ⟨A, c, e⟩ := hr.bs_sh
    exact ⟨l, A, c, e, e ▸ hr, hw⟩
  obtain ⟨rfl, rfl, rfl⟩ := Value.slice.inj ez1
  obtain ⟨aa2, ll2, cc2, rfl⟩ := okWide_slice Try.underlying23 (hval 2 23 v2 rfl rfl)
  have k2 := h2
  have lt2 : ∀ x ∈ p2, x.block < W.heap.size := by obtain ⟨m, hm⟩ := k2; exact DataW.trod_lt m _ _ _ hm
  obtain ⟨lz2, Az2, cz2, ez2, w2⟩ : ∃ (l : List ChunkM) (A : Option Addr) (c : Nat), Value.slice aa2 ll2 cc2 = .slice A l.length c ∧ Rd W (st_Chunk l) (.slice A l.length c) ∧ WfV (st_Chunk l) := by
    obtain ⟨fuel, hf⟩ := h2
    obtain ⟨l, hr, hw⟩ := openS_Chunk (v := .slice aa2 ll2 cc2) hf
    obtain ⟨A, c, e⟩ := st_Chunk_sh hr
    exact ⟨l, A, c, e, e ▸ hr, hw⟩
  obtain ⟨rfl, rfl, rfl⟩ := Value.slice.inj ez2
  clear hA0 hval0
  refine (walk j0 _ _ _ _ _ _ W w0 w1 w2).mono fun e W' ⟨he, bel⟩ => ?_
  subst he
  exact ⟨_, rfl, _, _, _, [], _, [], hW', trodAll_mk1 (shut_bool Try.underlying4 _), (trodAll_cons_mk (Below.trod laidOut (by kernel_rfl) (of_decide_eq_true (by kernel_rfl)) k0 bel lt0) (trodAll_cons_mk (Below.trod laidOut (by kernel_rfl) (of_decide_eq_true (by kernel_rfl)) k1 bel lt1) (trodAll_cons_mk (Below.trod laidOut (by kernel_rfl) (of_decide_eq_true (by kernel_rfl)) k2 bel lt2) trodAll_mk0))), rfl, bel.frame _, fun h => by cases h⟩

theorem over : Rows.fnExactProtectChunksRow.holds Try.pinned (OpenSpec.ofChange Rows.fnExactProtectChunksSpec) :=
  OpenClaim.holds_of_wide 5 Try.f5 rfl rfl rfl rfl rfl rfl rfl ⟨rfl, rfl, rfl, rfl, rfl⟩ rfl rfl rfl rfl rfl (by kernel_rfl) Try.func5 (by kernel_rfl)
    (of_decide_eq_true (by kernel_rfl)) (by unfold Func.isWrapper; first | (rw [if_pos (by decide +kernel)]; kernel_rfl) | (rw [if_neg (by decide +kernel)]; exact ⟨rfl, rfl⟩))
    (fun os started H enc _ => lifted os started H enc)

/-- ████ THE STATEMENT ████ -/
theorem proved : Rows.FnExactProtectChunksSaid := over
#print axioms proved
end Go.Proofs.Ytacdnednkglobaa.fnExactProtectChunks
