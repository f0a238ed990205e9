/- At every chunk the program's ReadInit answers as its model does, in memory of its own, it leaves its argument as it was, and the law FnExactReadInit answers true. -/
import Derived.Test.YtjjileefdjjijaaDoorRows
import Derived.Test.YtjjileefdjjijaaDoorCards
import Derived.Test.YtjjileefdjjijaaDoorTie
import Derived.SevenTiedAt
import Derived.LaidMore
import Derived.LaidLaws
import Derived.ChangeVars
import Derived.RowKitTokens
import Derived.Stop.Joined
import Derived.Stop.LaidErr
import Derived.Test.YtjjileefdjjijaaDoorSrI
import Derived.Test.YtjjileefdjjijaaDoorCoRG
import Derived.Test.YtjjileefdjjijaaDoorMa1
import Derived.Test.YtjjileefdjjijaaDoorFnExactReadInitR
import Derived.WalkSpells
import Derived.WalkLawsBesides
import Derived.WalkKit
import Derived.ProofKit
import Derived.OpenShut
import Derived.ShutString
import Derived.ChangeOld
import Derived.Below
namespace Go.Proofs.YtjjileefdjjijaaDoor.fnExactReadInit
open Go.ChangeShapes Go.WideShapes Go.ChangeAt Go.RowKit
open Go.ChangeMaps (open_string shut_string)
set_option linter.unusedVariables false

theorem own : ownKnob Tryd.prog.godebug = none := by kernel_rfl
theorem laidOut : laidOutB Tryd.prog = true := by kernel_rfl

/-- WHAT THE WALK IS TOLD OF A SLICE OF INTEGERS THAT CAME IN: it is nil; or it leads to a row of 'cap' cells, the numbers 'zs' (the first 'len' are its elements, the rest its spare room), each fitting its kind. -/
def IsRow (k : IntKind) (w : World) (a : Option Addr) (len cap : Nat) (zs : List Int) : Prop :=
  (a = none ∧ len = 0 ∧ cap = 0 ∧ zs = []) ∨
  ∃ x, a = some x ∧ len ≤ cap ∧ cap ≤ maxLen ∧ zs.length = cap ∧ (∀ i, i < zs.length → w.cell? (x.add i) = some (.int k (zs.getD i 0))) ∧ ∀ n ∈ zs, (Lit.int k n).wf = true


set_option maxRecDepth 100000 in
set_option maxHeartbeats 4000000 in
theorem walk (y0 : ChunkM) (A0_2 : Option Addr) (c0_2 : Nat) (w : World) (w0 : RdA w y0.vs [.int .i64 y0.Kind, .int .i64 y0.Flags, .slice A0_2 y0.Body.length c0_2] ∧ WfA y0.vs) (ty : TypeId) (pv : Value) (hE : w.cell? ⟨0, 0, none⟩ = some (.iface ty pv)) :
    Calls Tryd.prog 7 #[.agg #[.int .i64 y0.Kind, .int .i64 y0.Flags, .slice A0_2 y0.Body.length c0_2]] w fun e w' => e = .returned (.bool true) ∧ Below w.heap.size w w' := by
  obtain ⟨hr, hwf⟩ := w0
  have K1 := Blk.new w 74 #[.int .i64 y0.Kind, .int .i64 y0.Flags, .slice A0_2 y0.Body.length c0_2]
  have B1 := bal (Below.refl w.heap.size w) (.cells #[.int .i64 y0.Kind, .int .i64 y0.Flags, .slice A0_2 y0.Body.length c0_2] 74)
  obtain ⟨w1, hw1⟩ : ∃ w1, w.alloc (.cells #[.int .i64 y0.Kind, .int .i64 y0.Flags, .slice A0_2 y0.Body.length c0_2] 74) = w1 := ⟨_, rfl⟩
  rw [hw1] at K1 B1
  have HW1 := hidH hw1
  have HRD := hidH (fun (u : World) (h : Below w.heap.size w u) => RdA.below h hr)
  have SZ := hidH (fun (u : World) (h : Below w.heap.size w u) => szA_Chunk y0 (left := 1048576) (RdA.below h hr) (by omega) (by omega))
  have HWF := hidH hwf
  clear hw1 hr hwf
  go_enter Tryd.func7, Tryd.ntmps7
  go_wp2_with fail
  rw [HW1.out]
  refine (SZ.out _ B1).mono ?_
  rintro e w12 ⟨z0, rfl, hz, b2⟩
  have KB := K1.below b2
  have K := btr B1 b2
  have HZ := hidH hz
  clear K1 B1 b2 SZ HW1 hz
  by_cases h0 : z0 < 0
  · go_wp2
    go_ret
    exact ⟨rfl, K⟩
  · have ht : tot.totL y0.vs ≤ 1048576 := by have := HZ.out.2.2 (by omega); omega
    have hzp : 0 ≤ z0 := by omega
    have hlen := riR_len y0  HWF.out ht
    have hcn : vcA y0.vs ≤ 1000000000 := cnt_Chunk y0 ht
    have TO := hidH (fun (u : World) (h : Below w.heap.size w u) => toA_Chunk y0 (HRD.out u h) ht)
    have SP := hidH (fun (u : World) (vs : List Value) (h : RdA u y0.vs vs) => ri_spec y0  vs u h HWF.out ht)
    have IM := hidH (fun (u : World) (hB : Below w.heap.size w u) (vs : List Value) (h : RdA u y0.vs vs) => rG_impl y0  vs u ty pv ((hB.cell (p := ⟨0, 0, none⟩) (World.block_lt_of_cell? _ _ hE)).trans hE) h HWF.out ht)
    obtain ⟨z, hz⟩ : ∃ z, riR y0  = z := ⟨_, rfl⟩
    rw [hz] at SP IM hlen
    have hlt := KB.lt
    clear hz h0 ht HZ
    have p0 := KB.cell 0
    have p1 := KB.cell 1
    have p2 := KB.cell 2
    simp only [List.getElem?_toArray, List.getElem?_cons_succ, List.getElem?_cons_zero] at p0 p1 p2
    have gp := KB.lt
    go_wp2_with fail
    clear p0 p1 p2 gp
    refine (TO.out _ K).mono ?_
    rintro e w13 ⟨vs, rfl, Qa, hb⟩
    obtain ⟨Ea2, ea2, rfl⟩ := shape_Chunk Qa.rd
    try simp only [World.size_alloc] at Qa
    have sz := hb.size
    try simp only [World.size_alloc] at sz
    replace KB := KB.below hb
    replace K := btr K hb
    clear hb
    go_wp2_with fail
    refine (SP.out _ _ Qa.rd).mono ?_
    rintro e w14 ⟨vs, rfl, P1, hb⟩
    obtain ⟨R1_3, r1_3, R1_4, r1_4, R1_5, r1_5, rfl⟩ := shape_InitResult P1.rd
    try simp only [World.size_alloc] at P1
    have sz := hb.size
    try simp only [World.size_alloc] at sz
    replace KB := KB.below hb
    replace Qa := Qa.below hb
    replace K := btr K hb
    clear hb
    have X1 := Blk.new w14 54 #[.int .i64 z.Code, .int .i64 z.Init_Tag, .int .i64 z.Init_Tsn, .slice R1_3 z.Init_Random.length r1_3, .slice R1_4 z.Init_Addrs.length r1_4, .slice R1_5 z.Init_Cookie.length r1_5]
    replace KB := KB.alloc (.cells #[.int .i64 z.Code, .int .i64 z.Init_Tag, .int .i64 z.Init_Tsn, .slice R1_3 z.Init_Random.length r1_3, .slice R1_4 z.Init_Addrs.length r1_4, .slice R1_5 z.Init_Cookie.length r1_5] 54)
    replace Qa := Qa.below (bal (Below.refl _ _) (.cells #[.int .i64 z.Code, .int .i64 z.Init_Tag, .int .i64 z.Init_Tsn, .slice R1_3 z.Init_Random.length r1_3, .slice R1_4 z.Init_Addrs.length r1_4, .slice R1_5 z.Init_Cookie.length r1_5] 54))
    replace P1 := P1.below (bal (Below.refl _ _) (.cells #[.int .i64 z.Code, .int .i64 z.Init_Tag, .int .i64 z.Init_Tsn, .slice R1_3 z.Init_Random.length r1_3, .slice R1_4 z.Init_Addrs.length r1_4, .slice R1_5 z.Init_Cookie.length r1_5] 54))
    replace K := bal K (.cells #[.int .i64 z.Code, .int .i64 z.Init_Tag, .int .i64 z.Init_Tsn, .slice R1_3 z.Init_Random.length r1_3, .slice R1_4 z.Init_Addrs.length r1_4, .slice R1_5 z.Init_Cookie.length r1_5] 54)
    clear Qa
    have p0 := KB.cell 0
    have p1 := KB.cell 1
    have p2 := KB.cell 2
    simp only [List.getElem?_toArray, List.getElem?_cons_succ, List.getElem?_cons_zero] at p0 p1 p2
    have gp := KB.lt
    go_wp2_with fail
    clear p0 p1 p2 gp
    refine (TO.out _ K).mono ?_
    rintro e w15 ⟨vs, rfl, Qx, hb⟩
    obtain ⟨Ex2, ex2, rfl⟩ := shape_Chunk Qx.rd
    try simp only [World.size_alloc] at Qx
    have sz := hb.size
    try simp only [World.size_alloc] at sz
    replace KB := KB.below hb
    replace P1 := P1.below hb
    replace X1 := X1.below hb
    replace K := btr K hb
    clear hb
    have XX := Blk.new w15 28 #[.int .i64 y0.Kind, .int .i64 y0.Flags, .slice Ex2 y0.Body.length ex2]
    replace KB := KB.alloc (.cells #[.int .i64 y0.Kind, .int .i64 y0.Flags, .slice Ex2 y0.Body.length ex2] 28)
    replace P1 := P1.below (bal (Below.refl _ _) (.cells #[.int .i64 y0.Kind, .int .i64 y0.Flags, .slice Ex2 y0.Body.length ex2] 28))
    replace X1 := X1.alloc (.cells #[.int .i64 y0.Kind, .int .i64 y0.Flags, .slice Ex2 y0.Body.length ex2] 28)
    replace Qx := Qx.below (bal (Below.refl _ _) (.cells #[.int .i64 y0.Kind, .int .i64 y0.Flags, .slice Ex2 y0.Body.length ex2] 28))
    replace K := bal K (.cells #[.int .i64 y0.Kind, .int .i64 y0.Flags, .slice Ex2 y0.Body.length ex2] 28)
    have p0 := XX.cell 0
    have p1 := XX.cell 1
    have p2 := XX.cell 2
    simp only [List.getElem?_toArray, List.getElem?_cons_succ, List.getElem?_cons_zero] at p0 p1 p2
    have gp := XX.lt
    go_wp2_with fail
    clear p0 p1 p2 gp
    refine (IM.out _ K _ Qx.rd).mono ?_
    rintro e w16 ⟨vs, rfl, P2, hb⟩
    obtain ⟨R2_3, r2_3, R2_4, r2_4, R2_5, r2_5, rfl⟩ := shape_InitResult P2.rd
    try simp only [World.size_alloc] at P2
    have sz := hb.size
    try simp only [World.size_alloc] at sz
    replace KB := KB.below hb
    replace P1 := P1.below hb
    replace X1 := X1.below hb
    replace Qx := Qx.below hb
    replace XX := XX.below hb
    replace K := btr K hb
    clear hb
    have X2 := Blk.new w16 54 #[.int .i64 z.Code, .int .i64 z.Init_Tag, .int .i64 z.Init_Tsn, .slice R2_3 z.Init_Random.length r2_3, .slice R2_4 z.Init_Addrs.length r2_4, .slice R2_5 z.Init_Cookie.length r2_5]
    replace KB := KB.alloc (.cells #[.int .i64 z.Code, .int .i64 z.Init_Tag, .int .i64 z.Init_Tsn, .slice R2_3 z.Init_Random.length r2_3, .slice R2_4 z.Init_Addrs.length r2_4, .slice R2_5 z.Init_Cookie.length r2_5] 54)
    replace P1 := P1.below (bal (Below.refl _ _) (.cells #[.int .i64 z.Code, .int .i64 z.Init_Tag, .int .i64 z.Init_Tsn, .slice R2_3 z.Init_Random.length r2_3, .slice R2_4 z.Init_Addrs.length r2_4, .slice R2_5 z.Init_Cookie.length r2_5] 54))
    replace X1 := X1.alloc (.cells #[.int .i64 z.Code, .int .i64 z.Init_Tag, .int .i64 z.Init_Tsn, .slice R2_3 z.Init_Random.length r2_3, .slice R2_4 z.Init_Addrs.length r2_4, .slice R2_5 z.Init_Cookie.length r2_5] 54)
    replace Qx := Qx.below (bal (Below.refl _ _) (.cells #[.int .i64 z.Code, .int .i64 z.Init_Tag, .int .i64 z.Init_Tsn, .slice R2_3 z.Init_Random.length r2_3, .slice R2_4 z.Init_Addrs.length r2_4, .slice R2_5 z.Init_Cookie.length r2_5] 54))
    replace XX := XX.alloc (.cells #[.int .i64 z.Code, .int .i64 z.Init_Tag, .int .i64 z.Init_Tsn, .slice R2_3 z.Init_Random.length r2_3, .slice R2_4 z.Init_Addrs.length r2_4, .slice R2_5 z.Init_Cookie.length r2_5] 54)
    replace P2 := P2.below (bal (Below.refl _ _) (.cells #[.int .i64 z.Code, .int .i64 z.Init_Tag, .int .i64 z.Init_Tsn, .slice R2_3 z.Init_Random.length r2_3, .slice R2_4 z.Init_Addrs.length r2_4, .slice R2_5 z.Init_Cookie.length r2_5] 54))
    replace K := bal K (.cells #[.int .i64 z.Code, .int .i64 z.Init_Tag, .int .i64 z.Init_Tsn, .slice R2_3 z.Init_Random.length r2_3, .slice R2_4 z.Init_Addrs.length r2_4, .slice R2_5 z.Init_Cookie.length r2_5] 54)
    have p0 := X2.cell 0
    have p1 := X2.cell 1
    have p2 := X2.cell 2
    have p3 := X2.cell 3
    have p4 := X2.cell 4
    have p5 := X2.cell 5
    simp only [List.getElem?_toArray, List.getElem?_cons_succ, List.getElem?_cons_zero] at p0 p1 p2 p3 p4 p5
    have gp := X2.lt
    have q0 := X1.cell 0
    have q1 := X1.cell 1
    have q2 := X1.cell 2
    have q3 := X1.cell 3
    have q4 := X1.cell 4
    have q5 := X1.cell 5
    simp only [List.getElem?_toArray, List.getElem?_cons_succ, List.getElem?_cons_zero] at q0 q1 q2 q3 q4 q5
    have gq := X1.lt
    go_wp2_with fail
    clear p0 p1 p2 p3 p4 p5 gp
    clear q0 q1 q2 q3 q4 q5 gq
    refine (eqA_InitResult z P2.rd P1.rd).mono ?_
    rintro e w17 ⟨rfl, hb⟩
    have sz := hb.size
    try simp only [World.size_alloc] at sz
    replace KB := KB.below hb
    replace P1 := P1.below hb
    replace X1 := X1.below hb
    replace Qx := Qx.below hb
    replace XX := XX.below hb
    replace P2 := P2.below hb
    replace X2 := X2.below hb
    replace K := btr K hb
    clear hb
    go_wp2_with fail
    refine wp_region_any (by kernel_rfl) ?_
    refine regFnExactReadInit _ _ _ _ _ _ _ _ _ _ _ _ _ _ _ _ _ _ _ _ _ _ _ _ _ w17 _ _ y0 _ _ _ _ (fun u h => TO.out u (btr K h)) (fun u vs h k => eqA_Chunk y0 (RdA.below h Qx.rd) k) (by kernel_rfl) (by kernel_rfl) (by kernel_rfl) rfl (KB.below (Below.refl _ _).drew) (XX.below (Below.refl _ _).drew) ((Below.refl _ _).drew) (Below.refl _ _) ?_
    intros
    rename_i w18 m1 m2 m3 hb
    clear m1 m2 m3
    replace hb := (Below.refl _ _).drew.trans hb
    have sz := hb.size
    try simp only [World.size_alloc] at sz
    replace KB := KB.below hb
    replace P1 := P1.below hb
    replace X1 := X1.below hb
    replace Qx := Qx.below hb
    replace XX := XX.below hb
    replace P2 := P2.below hb
    replace X2 := X2.below hb
    replace K := btr K hb
    clear hb
    have p0 := XX.cell 0
    have p1 := XX.cell 1
    have p2 := XX.cell 2
    simp only [List.getElem?_toArray, List.getElem?_cons_succ, List.getElem?_cons_zero] at p0 p1 p2
    have gp := XX.lt
    go_wp2_with fail
    clear p0 p1 p2 gp
    refine (markA_Chunk y0 (S := Wn _ _) (k := 1) (Wn.sub (Nat.zero_le _) Qx.1) Qx.2 (by omega)).mono ?_
    rintro e w19 ⟨rfl, hc, _⟩
    have W := hc.win (fun _ _ h => h)
    clear hc
    have sz := W.size
    replace KB := Blk.win2 KB W (.inl (by omega))
    replace P1 := P1.win W (.inl (by omega))
    replace X1 := Blk.win2 X1 W (.inl (by omega))
    replace XX := Blk.win2 XX W (.inr (by omega))
    replace P2 := P2.win W (.inr (by omega))
    replace X2 := Blk.win2 X2 W (.inr (by omega))
    replace K := K.trans ((W.below (by omega)).mono (by omega))
    clear W
    clear Qx
    have kpos : ¬ (((1 + vcA y0.vs : Nat) : Int) < 0) := by omega
    have p0 := X2.cell 0
    have p1 := X2.cell 1
    have p2 := X2.cell 2
    have p3 := X2.cell 3
    have p4 := X2.cell 4
    have p5 := X2.cell 5
    simp only [List.getElem?_toArray, List.getElem?_cons_succ, List.getElem?_cons_zero] at p0 p1 p2 p3 p4 p5
    have gp := X2.lt
    have q0 := X1.cell 0
    have q1 := X1.cell 1
    have q2 := X1.cell 2
    have q3 := X1.cell 3
    have q4 := X1.cell 4
    have q5 := X1.cell 5
    simp only [List.getElem?_toArray, List.getElem?_cons_succ, List.getElem?_cons_zero] at q0 q1 q2 q3 q4 q5
    have gq := X1.lt
    go_wp2_with fail
    clear p0 p1 p2 p3 p4 p5 gp
    clear q0 q1 q2 q3 q4 q5 gq
    refine (eqA_InitResult z P2.rd P1.rd).mono ?_
    rintro e w20 ⟨rfl, hb⟩
    have sz := hb.size
    try simp only [World.size_alloc] at sz
    replace KB := KB.below hb
    replace P1 := P1.below hb
    replace X1 := X1.below hb
    replace XX := XX.below hb
    replace P2 := P2.below hb
    replace X2 := X2.below hb
    replace K := btr K hb
    clear hb
    clear kpos
    have p0 := X2.cell 0
    have p1 := X2.cell 1
    have p2 := X2.cell 2
    have p3 := X2.cell 3
    have p4 := X2.cell 4
    have p5 := X2.cell 5
    simp only [List.getElem?_toArray, List.getElem?_cons_succ, List.getElem?_cons_zero] at p0 p1 p2 p3 p4 p5
    have gp := X2.lt
    go_wp2_with fail
    clear p0 p1 p2 p3 p4 p5 gp
    refine (markA_InitResult z (S := Wn _ _) (k := 1) (Wn.sub (Nat.zero_le _) P2.1) P2.2 (by omega)).mono ?_
    rintro e w21 ⟨rfl, hc, ho⟩
    have W := hc.win (fun _ _ h => h)
    have M2 := And.intro (Nat.le_trans P2.1 hc.size) ho
    replace M2 : OwN _ _ _ _ _ := M2
    clear hc ho
    have sz := W.size
    replace KB := Blk.win2 KB W (.inl (by omega))
    replace P1 := P1.win W (.inl (by omega))
    replace X1 := Blk.win2 X1 W (.inl (by omega))
    replace XX := Blk.win2 XX W (.inl (by omega))
    replace X2 := Blk.win2 X2 W (.inr (by omega))
    replace K := K.trans ((W.below (by omega)).mono (by omega))
    clear W
    clear P2
    have p0 := X2.cell 0
    have p1 := X2.cell 1
    have p2 := X2.cell 2
    have p3 := X2.cell 3
    have p4 := X2.cell 4
    have p5 := X2.cell 5
    simp only [List.getElem?_toArray, List.getElem?_cons_succ, List.getElem?_cons_zero] at p0 p1 p2 p3 p4 p5
    have gp := X2.lt
    go_wp2_with fail
    clear p0 p1 p2 p3 p4 p5 gp
    refine (heldA_InitResult z (k := 1) M2.rd (by omega)).mono ?_
    rintro e w22 ⟨rfl, hb⟩
    have sz := hb.size
    try simp only [World.size_alloc] at sz
    replace KB := KB.below hb
    replace P1 := P1.below hb
    replace X1 := X1.below hb
    replace XX := XX.below hb
    replace X2 := X2.below hb
    replace M2 := M2.below hb
    replace K := btr K hb
    clear hb
    have kpos : ¬ (((1 + vcA z.vs : Nat) : Int) < 0) := by omega
    have p0 := KB.cell 0
    have p1 := KB.cell 1
    have p2 := KB.cell 2
    simp only [List.getElem?_toArray, List.getElem?_cons_succ, List.getElem?_cons_zero] at p0 p1 p2
    have gp := KB.lt
    go_wp2_with fail
    clear p0 p1 p2 gp
    refine (TO.out _ K).mono ?_
    rintro e w23 ⟨vs, rfl, Qh, hb⟩
    obtain ⟨Eh2, eh2, rfl⟩ := shape_Chunk Qh.rd
    try simp only [World.size_alloc] at Qh
    have sz := hb.size
    try simp only [World.size_alloc] at sz
    replace KB := KB.below hb
    replace P1 := P1.below hb
    replace X1 := X1.below hb
    replace XX := XX.below hb
    replace X2 := X2.below hb
    replace M2 := M2.below hb
    replace K := btr K hb
    clear hb
    go_wp2_with fail
    refine (IM.out _ K _ Qh.rd).mono ?_
    rintro e w24 ⟨vs, rfl, P3, hb⟩
    obtain ⟨R3_3, r3_3, R3_4, r3_4, R3_5, r3_5, rfl⟩ := shape_InitResult P3.rd
    try simp only [World.size_alloc] at P3
    have sz := hb.size
    try simp only [World.size_alloc] at sz
    replace KB := KB.below hb
    replace P1 := P1.below hb
    replace X1 := X1.below hb
    replace XX := XX.below hb
    replace X2 := X2.below hb
    replace M2 := M2.below hb
    replace Qh := Qh.below hb
    replace K := btr K hb
    clear hb
    have X3 := Blk.new w24 54 #[.int .i64 z.Code, .int .i64 z.Init_Tag, .int .i64 z.Init_Tsn, .slice R3_3 z.Init_Random.length r3_3, .slice R3_4 z.Init_Addrs.length r3_4, .slice R3_5 z.Init_Cookie.length r3_5]
    replace KB := KB.alloc (.cells #[.int .i64 z.Code, .int .i64 z.Init_Tag, .int .i64 z.Init_Tsn, .slice R3_3 z.Init_Random.length r3_3, .slice R3_4 z.Init_Addrs.length r3_4, .slice R3_5 z.Init_Cookie.length r3_5] 54)
    replace P1 := P1.below (bal (Below.refl _ _) (.cells #[.int .i64 z.Code, .int .i64 z.Init_Tag, .int .i64 z.Init_Tsn, .slice R3_3 z.Init_Random.length r3_3, .slice R3_4 z.Init_Addrs.length r3_4, .slice R3_5 z.Init_Cookie.length r3_5] 54))
    replace X1 := X1.alloc (.cells #[.int .i64 z.Code, .int .i64 z.Init_Tag, .int .i64 z.Init_Tsn, .slice R3_3 z.Init_Random.length r3_3, .slice R3_4 z.Init_Addrs.length r3_4, .slice R3_5 z.Init_Cookie.length r3_5] 54)
    replace XX := XX.alloc (.cells #[.int .i64 z.Code, .int .i64 z.Init_Tag, .int .i64 z.Init_Tsn, .slice R3_3 z.Init_Random.length r3_3, .slice R3_4 z.Init_Addrs.length r3_4, .slice R3_5 z.Init_Cookie.length r3_5] 54)
    replace X2 := X2.alloc (.cells #[.int .i64 z.Code, .int .i64 z.Init_Tag, .int .i64 z.Init_Tsn, .slice R3_3 z.Init_Random.length r3_3, .slice R3_4 z.Init_Addrs.length r3_4, .slice R3_5 z.Init_Cookie.length r3_5] 54)
    replace M2 := M2.below (bal (Below.refl _ _) (.cells #[.int .i64 z.Code, .int .i64 z.Init_Tag, .int .i64 z.Init_Tsn, .slice R3_3 z.Init_Random.length r3_3, .slice R3_4 z.Init_Addrs.length r3_4, .slice R3_5 z.Init_Cookie.length r3_5] 54))
    replace Qh := Qh.below (bal (Below.refl _ _) (.cells #[.int .i64 z.Code, .int .i64 z.Init_Tag, .int .i64 z.Init_Tsn, .slice R3_3 z.Init_Random.length r3_3, .slice R3_4 z.Init_Addrs.length r3_4, .slice R3_5 z.Init_Cookie.length r3_5] 54))
    replace P3 := P3.below (bal (Below.refl _ _) (.cells #[.int .i64 z.Code, .int .i64 z.Init_Tag, .int .i64 z.Init_Tsn, .slice R3_3 z.Init_Random.length r3_3, .slice R3_4 z.Init_Addrs.length r3_4, .slice R3_5 z.Init_Cookie.length r3_5] 54))
    replace K := bal K (.cells #[.int .i64 z.Code, .int .i64 z.Init_Tag, .int .i64 z.Init_Tsn, .slice R3_3 z.Init_Random.length r3_3, .slice R3_4 z.Init_Addrs.length r3_4, .slice R3_5 z.Init_Cookie.length r3_5] 54)
    clear Qh
    have p0 := X3.cell 0
    have p1 := X3.cell 1
    have p2 := X3.cell 2
    have p3 := X3.cell 3
    have p4 := X3.cell 4
    have p5 := X3.cell 5
    simp only [List.getElem?_toArray, List.getElem?_cons_succ, List.getElem?_cons_zero] at p0 p1 p2 p3 p4 p5
    have gp := X3.lt
    have q0 := X1.cell 0
    have q1 := X1.cell 1
    have q2 := X1.cell 2
    have q3 := X1.cell 3
    have q4 := X1.cell 4
    have q5 := X1.cell 5
    simp only [List.getElem?_toArray, List.getElem?_cons_succ, List.getElem?_cons_zero] at q0 q1 q2 q3 q4 q5
    have gq := X1.lt
    go_wp2_with fail
    clear p0 p1 p2 p3 p4 p5 gp
    clear q0 q1 q2 q3 q4 q5 gq
    refine (eqA_InitResult z P3.rd P1.rd).mono ?_
    rintro e w25 ⟨rfl, hb⟩
    have sz := hb.size
    try simp only [World.size_alloc] at sz
    replace KB := KB.below hb
    replace P1 := P1.below hb
    replace X1 := X1.below hb
    replace XX := XX.below hb
    replace X2 := X2.below hb
    replace M2 := M2.below hb
    replace P3 := P3.below hb
    replace X3 := X3.below hb
    replace K := btr K hb
    clear hb
    clear P3
    clear X3
    clear P1
    clear X1
    clear kpos
    have p0 := X2.cell 0
    have p1 := X2.cell 1
    have p2 := X2.cell 2
    have p3 := X2.cell 3
    have p4 := X2.cell 4
    have p5 := X2.cell 5
    simp only [List.getElem?_toArray, List.getElem?_cons_succ, List.getElem?_cons_zero] at p0 p1 p2 p3 p4 p5
    have gp := X2.lt
    go_wp2_with fail
    clear p0 p1 p2 p3 p4 p5 gp
    refine (heldA_InitResult z (k := 1) M2.rd (by omega)).mono ?_
    rintro e w26 ⟨rfl, hb⟩
    have sz := hb.size
    try simp only [World.size_alloc] at sz
    replace KB := KB.below hb
    replace XX := XX.below hb
    replace X2 := X2.below hb
    replace M2 := M2.below hb
    replace K := btr K hb
    clear hb
    have kpos : ¬ (((1 + vcA z.vs : Nat) : Int) < 0) := by omega
    go_wp2
    go_ret
    exact ⟨rfl, K⟩

/-! ### WHAT THE ROW LISTS: the sentinel -/
theorem gE : Tryd.prog.globalNamed "loop.example/g00670/impl.errUnreadable" = some 0 := by kernel_rfl
theorem tE : (Tryd.prog.globals[0]?).map (·.type) = some 162 := by kernel_rfl
theorem cellsE : Tryd.prog.cellsOf 209 = 1 := by kernel_rfl
theorem cellsS : Tryd.prog.cellsOf 9 = 1 := by kernel_rfl
theorem star : "*" ++ "errors.errorString" = "*errors.errorString" := by decide
theorem rowE (u : TypeId) (h : Tryd.prog.typeName? 3 u = some "*errors.errorString") : u = 185 :=
  typeName_ptr_named (nm := "errors.errorString") (by rw [star]; kernel_rfl) (by kernel_rfl) (by decide) u (by rw [star]; exact h)
/-- The door's own heap meets the condition. -/
theorem door_met (os : Os) (args : Array Value) : laidMetH Tryd.prog Rows.fnExactReadInitRow.laid ((World.doorLaid Tryd.prog 28 os).forCall (fun _ _ => 0) ⟨#[], args, []⟩).memory :=
  laidMetH_of_parts3 (fuel := 8) (laidMet_of_run' 8 (by kernel_rfl) (by kernel_rfl)) (by kernel_rfl) (by kernel_rfl)

/-! ### THE ROW's STEP: WRITTEN OUT: LEAVE IT -/
set_option maxRecDepth 100000 in
theorem lifted (os : Os) (started : os.Started) (H : Type) (enc : TypeId × Value → H) :
    ReturnsInHanded {} Tryd.checked os 7 .any (fun w args => (Rows.fnExactReadInitSpec.pre enc Tryd.prog Tryd.f7 [] false w args ∧ laidMetH Tryd.prog Rows.fnExactReadInitRow.laid w) ∧ sizedMet enc Tryd.prog Tryd.f7 (OpenSpec.ofChange Rows.fnExactReadInitSpec) false w args) (Rows.fnExactReadInitSpec.post enc Tryd.prog Tryd.f7 false true false false) := by
  refine returnsInHanded_of_change_and (C := Tryd.checked) (X := fun w _ => laidMetH Tryd.prog Rows.fnExactReadInitRow.laid w) (fun _ _ _ hh h => h.of_heap hh) own started (by kernel_rfl) Tryd.func7
    (ChangeSpec.witness_shaped (enc := enc) (C := Tryd.checked) (os := os) (X := fun w _ => laidMetH Tryd.prog Rows.fnExactReadInitRow.laid w) false (World.doorLaid Tryd.prog 28 os) #[.agg #[.int .i64 0, .int .i64 0, .slice none 0 0]] 8 rfl (World.shaped_of_RefB (by kernel_rfl) (by kernel_rfl)) (by kernel_rfl) (by kernel_rfl) (by kernel_rfl) (door_met os _)) ?_
  intro W base args ds gs before hval0 hW _ _ hL _
  have hval : ∀ (j : Nat) t v, Tryd.f7.params[j]? = some t → args[j]? = some v → Value.okWide Tryd.prog W .any base t v := hval0
  have hW' := hW
  obtain ⟨p, q, hA0, hV, rfl, hfz, hnd⟩ := hW
  have hA : DataW.TrodAll enc Tryd.prog W 0 (fun _ => true) true Tryd.f7.params.toList args.toList ds p := hA0
  rw [Tryd.params7] at hA hval
  obtain ⟨v0, vs0, d0, ds0, p0, q0, hargs, rfl, rfl, h0, r0⟩ := trodAll_cons hA
  obtain ⟨rfl, rfl, rfl⟩ := trodAll_nil r0
  obtain rfl : args = #[v0] := by cases args; simp_all
  have hV1 : DataW.TrodVars enc Tryd.prog W (fun _ => true) ["loop.example/g00670/impl.errUnreadable"] gs q := hV
  have hL1 := hL
  rw [MakeChecks.laidMetH_plain _ _ _ (by kernel_rfl)] at hL1
  obtain ⟨ae, se, hve, hce, hse, hze⟩ := laid_sentinel hL1 gE tE Tryd.underlying162 rowE Tryd.underlying185 Tryd.underlying209 rfl rfl Tryd.underlying9 cellsE cellsS
  obtain ⟨rfl, rfl⟩ := hV1.unique (vars_read1 enc gE tE Tryd.underlying162 hve trivial _)
  have hE : W.cell? ⟨0, 0, none⟩ = some (.iface 185 (.pointer (some ae))) := by simpa using World.var?_cell gE hve 0
  obtain ⟨cells0, rfl, hsz0⟩ := okWide_struct Tryd.underlying74 (hval 0 74 v0 rfl rfl)
  have k0 := h0
  have lt0 : ∀ x ∈ p0, x.block < W.heap.size := by obtain ⟨m, hm⟩ := k0; exact DataW.trod_lt m _ _ _ hm
  obtain ⟨y0, A0_2, c0_2, rfl, wr0, wf0⟩ := opened_Chunk h0
  have w0 := And.intro wr0 wf0
  clear hA0 hval0
  refine (walk y0 A0_2 c0_2 W w0 _ _ hE).mono fun e W' ⟨he, bel⟩ => ?_
  subst he
  have hve2 : W'.var? Tryd.prog "loop.example/g00670/impl.errUnreadable" = some #[.iface 185 (.pointer (some ae))] := by
    have hb0 := bel.block 0 (World.block_lt_of_cell? _ _ hE)
    simpa [World.var?, gE, hb0] using hve
  exact ⟨_, rfl, _, _, _, [], _, [.cell 0 0], hW', trodAll_mk1 (shut_bool Tryd.underlying4 _), (trodAll_cons_mk (Below.trod laidOut (by kernel_rfl) (of_decide_eq_true (by kernel_rfl)) k0 bel lt0) trodAll_mk0), vars_read1 enc gE tE Tryd.underlying162 hve2 trivial _, bel.frame _, fun h => by cases h⟩

theorem over : Rows.fnExactReadInitRow.holds Tryd.pinned (OpenSpec.ofChange Rows.fnExactReadInitSpec) :=
  OpenClaim.holds_of_wide 7 Tryd.f7 rfl rfl rfl rfl rfl rfl rfl ⟨rfl, rfl, rfl, rfl, rfl⟩ rfl rfl rfl rfl rfl (by kernel_rfl) Tryd.func7 (by kernel_rfl)
    (of_decide_eq_true (by kernel_rfl)) (by unfold Func.isWrapper; first | (rw [if_pos (by decide +kernel)]; kernel_rfl) | (rw [if_neg (by decide +kernel)]; exact ⟨rfl, rfl⟩))
    (fun os started H enc _ => lifted os started H enc)

/-- ████ THE STATEMENT: THE TIED CARD ████ -/
theorem proved : Rows.FnExactReadInitCardSaid :=
  Claim7.holds_tied_plain_at .later [] [.sentinel] true (true, "e884739d2b06d4efc30f4dd8c4284b2bf9d4ae3b582cb1622b988e033282242a") true
    over (fun _ h => by cases h) (by kernel_rfl) (fun _ h => by cases h) fnExactReadInit_row_tie rfl ⟨rfl, rfl⟩ (by kernel_rfl) rfl
    (fun f fn hf hfn => by
      obtain rfl : f = 7 := Option.some.inj ((show Tryd.prog.funcNamed "loop.example/g00670/laws.FnExactReadInit" = some 7 by kernel_rfl).symm.trans hf) |>.symm
      obtain rfl : fn = Tryd.f7 := (Option.some.inj (Tryd.func7.symm.trans hfn)).symm
      exact ⟨by kernel_rfl, fun j t ht => by
        rw [Tryd.params7] at ht
        have hm : t ∈ [74] := by simpa using Array.mem_of_getElem? ht
        have hall : ([74].all fun u => !Tryd.prog.wantsStandIn u) = true := by kernel_rfl
        exact (show Tryd.prog.wantsStandIn t = false by simpa using List.all_eq_true.1 hall t hm)⟩)
    (by kernel_rfl)
#print axioms proved
end Go.Proofs.YtjjileefdjjijaaDoor.fnExactReadInit
