/- At every greeting the program's VectorOf answers as its model does, in memory of its own, it leaves its argument as it was, and the law FnExactVectorOf answers true. -/
import Derived.Test.YtjjileefdjjijaaRows
import Derived.Test.YtjjileefdjjijaaS6VI
import Derived.Test.YtjjileefdjjijaaUniR
import Derived.Test.YtjjileefdjjijaaLwBytes
import Derived.Test.YtjjileefdjjijaaFnExactVectorOfR
import Derived.WalkSpells
import Derived.WalkLawsBesides
import Derived.WalkKit
import Derived.ProofKit
import Derived.OpenShut
import Derived.ShutString
import Derived.ChangeOld
import Derived.Below
namespace Go.Proofs.Ytjjileefdjjijaa.fnExactVectorOf
open Go.ChangeShapes Go.WideShapes Go.ChangeAt Go.RowKit
open Go.ChangeMaps (open_string shut_string)
set_option linter.unusedVariables false

theorem own : ownKnob Try.prog.godebug = none := by kernel_rfl
theorem laidOut : laidOutB Try.prog = true := by kernel_rfl

/-- WHAT THE WALK IS TOLD OF A SLICE OF INTEGERS THAT CAME IN: it is nil; or it leads to a row of 'cap' cells, the numbers 'zs' (the first 'len' are its elements, the rest its spare room), each fitting its kind. -/
def IsRow (k : IntKind) (w : World) (a : Option Addr) (len cap : Nat) (zs : List Int) : Prop :=
  (a = none ∧ len = 0 ∧ cap = 0 ∧ zs = []) ∨
  ∃ x, a = some x ∧ len ≤ cap ∧ cap ≤ maxLen ∧ zs.length = cap ∧ (∀ i, i < zs.length → w.cell? (x.add i) = some (.int k (zs.getD i 0))) ∧ ∀ n ∈ zs, (Lit.int k n).wf = true


set_option maxRecDepth 100000 in
set_option maxHeartbeats 4000000 in
theorem walk (y0 : InitM) (A0_2 : Option Addr) (c0_2 : Nat) (A0_3 : Option Addr) (c0_3 : Nat) (A0_4 : Option Addr) (c0_4 : Nat) (w : World) (w0 : RdA w y0.vs [.int .i64 y0.Tag, .int .i64 y0.Tsn, .slice A0_2 y0.Random.length c0_2, .slice A0_3 y0.Addrs.length c0_3, .slice A0_4 y0.Cookie.length c0_4] ∧ WfA y0.vs) :
    Calls Try.prog 4 #[.agg #[.int .i64 y0.Tag, .int .i64 y0.Tsn, .slice A0_2 y0.Random.length c0_2, .slice A0_3 y0.Addrs.length c0_3, .slice A0_4 y0.Cookie.length c0_4]] w fun e w' => e = .returned (.bool true) ∧ Below w.heap.size w w' := by
  obtain ⟨hr0, hwf0⟩ := w0
  have K : Below w.heap.size w w := Below.refl _ _
  have KB0 := Blk.new w 32 #[.int .i64 y0.Tag, .int .i64 y0.Tsn, .slice A0_2 y0.Random.length c0_2, .slice A0_3 y0.Addrs.length c0_3, .slice A0_4 y0.Cookie.length c0_4]
  replace K := bal K (.cells #[.int .i64 y0.Tag, .int .i64 y0.Tsn, .slice A0_2 y0.Random.length c0_2, .slice A0_3 y0.Addrs.length c0_3, .slice A0_4 y0.Cookie.length c0_4] 32)
  obtain ⟨w10, hw1⟩ : ∃ w10, (w.alloc (.cells #[.int .i64 y0.Tag, .int .i64 y0.Tsn, .slice A0_2 y0.Random.length c0_2, .slice A0_3 y0.Addrs.length c0_3, .slice A0_4 y0.Cookie.length c0_4] 32)) = w10 := ⟨_, rfl⟩
  rw [hw1] at K KB0
  have HW1 := hidH hw1
  clear hw1
  have hKB0 := KB0.lt
  have KK := hidH K
  clear KK
  have HRD0 := hidH (fun (u : World) (h : Below w.heap.size w u) => RdA.below h hr0)
  have HWF0 := hidH hwf0
  clear hr0 hwf0
  go_enter Try.func4, Try.ntmps4
  go_wp2_with fail
  rw [HW1.out]
  refine (szA_Init y0 (left := 1048576) (HRD0.out _ K) (by omega) (by omega)).mono ?_
  rintro e w11 ⟨z0, rfl, hz0, hb⟩
  have sz := hb.size
  try simp only [World.size_alloc] at sz
  replace KB0 := KB0.below hb
  replace K := btr K hb
  clear hb
  have HZ0 := hidH hz0
  clear hz0
  by_cases h0 : z0 < 0
  · go_wp2
    go_ret
    exact ⟨rfl, K⟩
  · have ht0 : tot.totL y0.vs ≤ 1048576 := by have := HZ0.out.2.2 (by omega); omega
    have hzp0 : 0 ≤ z0 := by omega
    have hzl0 : z0 ≤ 1048576 := by have := HZ0.out.2.1; omega
    clear h0
    have hlen := vecR_len y0 HWF0.out ht0
    have hcn0 : vcA y0.vs ≤ 1000000000 := cnt_Init y0 ht0
    have TO0 := hidH (fun (u : World) (h : Below w.heap.size w u) => toA_Init y0 (HRD0.out u h) ht0)
    have SP := hidH (fun (u : World) (v0 : List Value) (h0 : RdA u y0.vs v0) => vec_spec y0 v0 u h0 HWF0.out ht0)
    have IM := hidH (fun (u : World) (v0 : List Value) (h0 : RdA u y0.vs v0) => vec_impl y0 v0 u h0 HWF0.out ht0)
    obtain ⟨z, hz⟩ : ∃ z, vecR y0 = z := ⟨_, rfl⟩
    rw [hz] at SP IM hlen
    clear hz ht0
    clear HZ0
    have p0 := KB0.cell 0
    have p1 := KB0.cell 1
    have p2 := KB0.cell 2
    have p3 := KB0.cell 3
    have p4 := KB0.cell 4
    simp only [List.getElem?_toArray, List.getElem?_cons_succ, List.getElem?_cons_zero] at p0 p1 p2 p3 p4
    have gp := KB0.lt
    go_wp2_with fail
    clear p0 p1 p2 p3 p4 gp
    refine (TO0.out _ K).mono ?_
    rintro e w12 ⟨vs, rfl, Qa0, hb⟩
    obtain ⟨Ea0_2, ea0_2, Ea0_3, ea0_3, Ea0_4, ea0_4, rfl⟩ := shape_Init Qa0.rd
    try simp only [World.size_alloc] at Qa0
    have sz := hb.size
    try simp only [World.size_alloc] at sz
    replace KB0 := KB0.below hb
    replace K := btr K hb
    clear hb
    go_wp2_with fail
    refine (SP.out _ _ Qa0.rd).mono ?_
    rintro e w13 ⟨vs, rfl, P1, hb⟩
    obtain ⟨R1_1, r1_1, rfl⟩ := shape_BytesResult P1.rd
    try simp only [World.size_alloc] at P1
    have sz := hb.size
    try simp only [World.size_alloc] at sz
    replace KB0 := KB0.below hb
    replace Qa0 := Qa0.below hb
    replace K := btr K hb
    clear hb
    have X1 := Blk.new w13 35 #[.int .i64 z.Code, .slice R1_1 z.Bytes.length r1_1]
    replace KB0 := KB0.alloc (.cells #[.int .i64 z.Code, .slice R1_1 z.Bytes.length r1_1] 35)
    replace Qa0 := Qa0.below (bal (Below.refl _ _) (.cells #[.int .i64 z.Code, .slice R1_1 z.Bytes.length r1_1] 35))
    replace P1 := P1.below (bal (Below.refl _ _) (.cells #[.int .i64 z.Code, .slice R1_1 z.Bytes.length r1_1] 35))
    replace K := bal K (.cells #[.int .i64 z.Code, .slice R1_1 z.Bytes.length r1_1] 35)
    clear Qa0
    have p0 := KB0.cell 0
    have p1 := KB0.cell 1
    have p2 := KB0.cell 2
    have p3 := KB0.cell 3
    have p4 := KB0.cell 4
    simp only [List.getElem?_toArray, List.getElem?_cons_succ, List.getElem?_cons_zero] at p0 p1 p2 p3 p4
    have gp := KB0.lt
    go_wp2_with fail
    clear p0 p1 p2 p3 p4 gp
    refine (TO0.out _ K).mono ?_
    rintro e w14 ⟨vs, rfl, Qx0, hb⟩
    obtain ⟨Ex0_2, ex0_2, Ex0_3, ex0_3, Ex0_4, ex0_4, rfl⟩ := shape_Init Qx0.rd
    try simp only [World.size_alloc] at Qx0
    have sz := hb.size
    try simp only [World.size_alloc] at sz
    replace KB0 := KB0.below hb
    replace P1 := P1.below hb
    replace X1 := X1.below hb
    replace K := btr K hb
    clear hb
    have XX0 := Blk.new w14 37 #[.int .i64 y0.Tag, .int .i64 y0.Tsn, .slice Ex0_2 y0.Random.length ex0_2, .slice Ex0_3 y0.Addrs.length ex0_3, .slice Ex0_4 y0.Cookie.length ex0_4]
    replace KB0 := KB0.alloc (.cells #[.int .i64 y0.Tag, .int .i64 y0.Tsn, .slice Ex0_2 y0.Random.length ex0_2, .slice Ex0_3 y0.Addrs.length ex0_3, .slice Ex0_4 y0.Cookie.length ex0_4] 37)
    replace P1 := P1.below (bal (Below.refl _ _) (.cells #[.int .i64 y0.Tag, .int .i64 y0.Tsn, .slice Ex0_2 y0.Random.length ex0_2, .slice Ex0_3 y0.Addrs.length ex0_3, .slice Ex0_4 y0.Cookie.length ex0_4] 37))
    replace X1 := X1.alloc (.cells #[.int .i64 y0.Tag, .int .i64 y0.Tsn, .slice Ex0_2 y0.Random.length ex0_2, .slice Ex0_3 y0.Addrs.length ex0_3, .slice Ex0_4 y0.Cookie.length ex0_4] 37)
    replace Qx0 := Qx0.below (bal (Below.refl _ _) (.cells #[.int .i64 y0.Tag, .int .i64 y0.Tsn, .slice Ex0_2 y0.Random.length ex0_2, .slice Ex0_3 y0.Addrs.length ex0_3, .slice Ex0_4 y0.Cookie.length ex0_4] 37))
    replace K := bal K (.cells #[.int .i64 y0.Tag, .int .i64 y0.Tsn, .slice Ex0_2 y0.Random.length ex0_2, .slice Ex0_3 y0.Addrs.length ex0_3, .slice Ex0_4 y0.Cookie.length ex0_4] 37)
    have b00 := XX0.cell 0
    have b01 := XX0.cell 1
    have b02 := XX0.cell 2
    have b03 := XX0.cell 3
    have b04 := XX0.cell 4
    simp only [List.getElem?_toArray, List.getElem?_cons_succ, List.getElem?_cons_zero] at b00 b01 b02 b03 b04
    have gb0 := XX0.lt
    go_wp2_with fail
    clear b00 b01 b02 b03 b04 gb0
    refine (IM.out _ _ Qx0.rd).mono ?_
    rintro e w15 ⟨vs, rfl, P2, hb⟩
    obtain ⟨R2_1, r2_1, rfl⟩ := shape_BytesResult P2.rd
    try simp only [World.size_alloc] at P2
    have sz := hb.size
    try simp only [World.size_alloc] at sz
    replace KB0 := KB0.below hb
    replace P1 := P1.below hb
    replace X1 := X1.below hb
    replace Qx0 := Qx0.below hb
    replace XX0 := XX0.below hb
    replace K := btr K hb
    clear hb
    have X2 := Blk.new w15 35 #[.int .i64 z.Code, .slice R2_1 z.Bytes.length r2_1]
    replace KB0 := KB0.alloc (.cells #[.int .i64 z.Code, .slice R2_1 z.Bytes.length r2_1] 35)
    replace P1 := P1.below (bal (Below.refl _ _) (.cells #[.int .i64 z.Code, .slice R2_1 z.Bytes.length r2_1] 35))
    replace X1 := X1.alloc (.cells #[.int .i64 z.Code, .slice R2_1 z.Bytes.length r2_1] 35)
    replace Qx0 := Qx0.below (bal (Below.refl _ _) (.cells #[.int .i64 z.Code, .slice R2_1 z.Bytes.length r2_1] 35))
    replace XX0 := XX0.alloc (.cells #[.int .i64 z.Code, .slice R2_1 z.Bytes.length r2_1] 35)
    replace P2 := P2.below (bal (Below.refl _ _) (.cells #[.int .i64 z.Code, .slice R2_1 z.Bytes.length r2_1] 35))
    replace K := bal K (.cells #[.int .i64 z.Code, .slice R2_1 z.Bytes.length r2_1] 35)
    have p0 := X2.cell 0
    have p1 := X2.cell 1
    simp only [List.getElem?_toArray, List.getElem?_cons_succ, List.getElem?_cons_zero] at p0 p1
    have gp := X2.lt
    have q0 := X1.cell 0
    have q1 := X1.cell 1
    simp only [List.getElem?_toArray, List.getElem?_cons_succ, List.getElem?_cons_zero] at q0 q1
    have gq := X1.lt
    go_wp2_with fail
    clear p0 p1 gp
    clear q0 q1 gq
    refine (eqA_BytesResult z P2.rd P1.rd).mono ?_
    rintro e w16 ⟨rfl, hb⟩
    have sz := hb.size
    try simp only [World.size_alloc] at sz
    replace KB0 := KB0.below hb
    replace P1 := P1.below hb
    replace X1 := X1.below hb
    replace Qx0 := Qx0.below hb
    replace XX0 := XX0.below hb
    replace P2 := P2.below hb
    replace X2 := X2.below hb
    replace K := btr K hb
    clear hb
    go_wp2_with fail
    refine wp_region_any (by kernel_rfl) ?_
    refine regFnExactVectorOf_0 _ _ _ _ _ _ _ _ _ _ _ _ _ _ _ _ _ _ _ _ _ _ _ _ _ w16 _ _ y0 _ _ _ _ _ _ _ _ _ _ _ _ (fun u h => TO0.out u (btr K h)) (fun u vs h k => eqA_Init y0 (RdA.below h Qx0.rd) k) (by kernel_rfl) (by kernel_rfl) (by kernel_rfl) rfl (KB0.below (Below.refl _ _).drew) (XX0.below (Below.refl _ _).drew) ((Below.refl _ _).drew) (Below.refl _ _) ?_
    intros
    rename_i w17 m1 m2 m3 hb
    clear m1 m2 m3
    replace hb := (Below.refl _ _).drew.trans hb
    have sz := hb.size
    try simp only [World.size_alloc] at sz
    replace KB0 := KB0.below hb
    replace P1 := P1.below hb
    replace X1 := X1.below hb
    replace Qx0 := Qx0.below hb
    replace XX0 := XX0.below hb
    replace P2 := P2.below hb
    replace X2 := X2.below hb
    replace K := btr K hb
    clear hb
    have p0 := XX0.cell 0
    have p1 := XX0.cell 1
    have p2 := XX0.cell 2
    have p3 := XX0.cell 3
    have p4 := XX0.cell 4
    simp only [List.getElem?_toArray, List.getElem?_cons_succ, List.getElem?_cons_zero] at p0 p1 p2 p3 p4
    have gp := XX0.lt
    go_wp2_with fail
    clear p0 p1 p2 p3 p4 gp
    refine (markA_Init y0 (S := Wn _ _) (k := 1) (Wn.sub (Nat.zero_le _) Qx0.1) Qx0.2 (by omega)).mono ?_
    rintro e w18 ⟨rfl, hc, _⟩
    have W := hc.win (fun _ _ h => h)
    clear hc
    have sz := W.size
    replace KB0 := Blk.win2 KB0 W (.inl (by omega))
    replace P1 := P1.win W (.inl (by omega))
    replace X1 := Blk.win2 X1 W (.inl (by omega))
    replace XX0 := Blk.win2 XX0 W (.inr (by omega))
    replace P2 := P2.win W (.inr (by omega))
    replace X2 := Blk.win2 X2 W (.inr (by omega))
    replace K := K.trans ((W.below (by omega)).mono (by omega))
    clear W
    clear Qx0
    have kpos : ¬ (((1 + vcA y0.vs : Nat) : Int) < 0) := by omega
    have p0 := X2.cell 0
    have p1 := X2.cell 1
    simp only [List.getElem?_toArray, List.getElem?_cons_succ, List.getElem?_cons_zero] at p0 p1
    have gp := X2.lt
    have q0 := X1.cell 0
    have q1 := X1.cell 1
    simp only [List.getElem?_toArray, List.getElem?_cons_succ, List.getElem?_cons_zero] at q0 q1
    have gq := X1.lt
    go_wp2_with fail
    clear p0 p1 gp
    clear q0 q1 gq
    refine (eqA_BytesResult z P2.rd P1.rd).mono ?_
    rintro e w19 ⟨rfl, hb⟩
    have sz := hb.size
    try simp only [World.size_alloc] at sz
    replace KB0 := KB0.below hb
    replace P1 := P1.below hb
    replace X1 := X1.below hb
    replace XX0 := XX0.below hb
    replace P2 := P2.below hb
    replace X2 := X2.below hb
    replace K := btr K hb
    clear hb
    clear kpos
    have p0 := X2.cell 0
    have p1 := X2.cell 1
    simp only [List.getElem?_toArray, List.getElem?_cons_succ, List.getElem?_cons_zero] at p0 p1
    have gp := X2.lt
    go_wp2_with fail
    clear p0 p1 gp
    refine (markA_BytesResult z (S := Wn _ _) (k := 1) (Wn.sub (Nat.zero_le _) P2.1) P2.2 (by omega)).mono ?_
    rintro e w20 ⟨rfl, hc, ho⟩
    have W := hc.win (fun _ _ h => h)
    have M2 := And.intro (Nat.le_trans P2.1 hc.size) ho
    replace M2 : OwN _ _ _ _ _ := M2
    clear hc ho
    have sz := W.size
    replace KB0 := Blk.win2 KB0 W (.inl (by omega))
    replace P1 := P1.win W (.inl (by omega))
    replace X1 := Blk.win2 X1 W (.inl (by omega))
    replace XX0 := Blk.win2 XX0 W (.inl (by omega))
    replace X2 := Blk.win2 X2 W (.inr (by omega))
    replace K := K.trans ((W.below (by omega)).mono (by omega))
    clear W
    clear P2
    have p0 := X2.cell 0
    have p1 := X2.cell 1
    simp only [List.getElem?_toArray, List.getElem?_cons_succ, List.getElem?_cons_zero] at p0 p1
    have gp := X2.lt
    go_wp2_with fail
    clear p0 p1 gp
    refine (heldA_BytesResult z (k := 1) M2.rd (by omega)).mono ?_
    rintro e w21 ⟨rfl, hb⟩
    have sz := hb.size
    try simp only [World.size_alloc] at sz
    replace KB0 := KB0.below hb
    replace P1 := P1.below hb
    replace X1 := X1.below hb
    replace XX0 := XX0.below hb
    replace X2 := X2.below hb
    replace M2 := M2.below hb
    replace K := btr K hb
    clear hb
    have kpos : ¬ (((1 + vcA z.vs : Nat) : Int) < 0) := by omega
    have p0 := KB0.cell 0
    have p1 := KB0.cell 1
    have p2 := KB0.cell 2
    have p3 := KB0.cell 3
    have p4 := KB0.cell 4
    simp only [List.getElem?_toArray, List.getElem?_cons_succ, List.getElem?_cons_zero] at p0 p1 p2 p3 p4
    have gp := KB0.lt
    go_wp2_with fail
    clear p0 p1 p2 p3 p4 gp
    refine (TO0.out _ K).mono ?_
    rintro e w22 ⟨vs, rfl, Qh0, hb⟩
    obtain ⟨Eh0_2, eh0_2, Eh0_3, eh0_3, Eh0_4, eh0_4, rfl⟩ := shape_Init Qh0.rd
    try simp only [World.size_alloc] at Qh0
    have sz := hb.size
    try simp only [World.size_alloc] at sz
    replace KB0 := KB0.below hb
    replace P1 := P1.below hb
    replace X1 := X1.below hb
    replace XX0 := XX0.below hb
    replace X2 := X2.below hb
    replace M2 := M2.below hb
    replace K := btr K hb
    clear hb
    go_wp2_with fail
    refine (IM.out _ _ Qh0.rd).mono ?_
    rintro e w23 ⟨vs, rfl, P3, hb⟩
    obtain ⟨R3_1, r3_1, rfl⟩ := shape_BytesResult P3.rd
    try simp only [World.size_alloc] at P3
    have sz := hb.size
    try simp only [World.size_alloc] at sz
    replace KB0 := KB0.below hb
    replace P1 := P1.below hb
    replace X1 := X1.below hb
    replace XX0 := XX0.below hb
    replace X2 := X2.below hb
    replace M2 := M2.below hb
    replace Qh0 := Qh0.below hb
    replace K := btr K hb
    clear hb
    have X3 := Blk.new w23 35 #[.int .i64 z.Code, .slice R3_1 z.Bytes.length r3_1]
    replace KB0 := KB0.alloc (.cells #[.int .i64 z.Code, .slice R3_1 z.Bytes.length r3_1] 35)
    replace P1 := P1.below (bal (Below.refl _ _) (.cells #[.int .i64 z.Code, .slice R3_1 z.Bytes.length r3_1] 35))
    replace X1 := X1.alloc (.cells #[.int .i64 z.Code, .slice R3_1 z.Bytes.length r3_1] 35)
    replace XX0 := XX0.alloc (.cells #[.int .i64 z.Code, .slice R3_1 z.Bytes.length r3_1] 35)
    replace X2 := X2.alloc (.cells #[.int .i64 z.Code, .slice R3_1 z.Bytes.length r3_1] 35)
    replace M2 := M2.below (bal (Below.refl _ _) (.cells #[.int .i64 z.Code, .slice R3_1 z.Bytes.length r3_1] 35))
    replace Qh0 := Qh0.below (bal (Below.refl _ _) (.cells #[.int .i64 z.Code, .slice R3_1 z.Bytes.length r3_1] 35))
    replace P3 := P3.below (bal (Below.refl _ _) (.cells #[.int .i64 z.Code, .slice R3_1 z.Bytes.length r3_1] 35))
    replace K := bal K (.cells #[.int .i64 z.Code, .slice R3_1 z.Bytes.length r3_1] 35)
    clear Qh0
    have p0 := X3.cell 0
    have p1 := X3.cell 1
    simp only [List.getElem?_toArray, List.getElem?_cons_succ, List.getElem?_cons_zero] at p0 p1
    have gp := X3.lt
    have q0 := X1.cell 0
    have q1 := X1.cell 1
    simp only [List.getElem?_toArray, List.getElem?_cons_succ, List.getElem?_cons_zero] at q0 q1
    have gq := X1.lt
    go_wp2_with fail
    clear p0 p1 gp
    clear q0 q1 gq
    refine (eqA_BytesResult z P3.rd P1.rd).mono ?_
    rintro e w24 ⟨rfl, hb⟩
    have sz := hb.size
    try simp only [World.size_alloc] at sz
    replace KB0 := KB0.below hb
    replace P1 := P1.below hb
    replace X1 := X1.below hb
    replace XX0 := XX0.below hb
    replace X2 := X2.below hb
    replace M2 := M2.below hb
    replace P3 := P3.below hb
    replace X3 := X3.below hb
    replace K := btr K hb
    clear hb
    clear P3
    clear X3
    clear P1
    clear X1
    clear kpos
    have p0 := X2.cell 0
    have p1 := X2.cell 1
    simp only [List.getElem?_toArray, List.getElem?_cons_succ, List.getElem?_cons_zero] at p0 p1
    have gp := X2.lt
    go_wp2_with fail
    clear p0 p1 gp
    refine (heldA_BytesResult z (k := 1) M2.rd (by omega)).mono ?_
    rintro e w25 ⟨rfl, hb⟩
    have sz := hb.size
    try simp only [World.size_alloc] at sz
    replace KB0 := KB0.below hb
    replace XX0 := XX0.below hb
    replace X2 := X2.below hb
    replace M2 := M2.below hb
    replace K := btr K hb
    clear hb
    have kpos : ¬ (((1 + vcA z.vs : Nat) : Int) < 0) := by omega
    go_wp2
    go_ret
    exact ⟨rfl, K⟩

/-- An input that the row's conditions hold of: the witness laid as theorems of their own (inside the refine Lean does not come to an end). -/
def wit : Input := ⟨#[], #[.agg #[.int .i64 0, .int .i64 0, .slice none 0 0, .slice none 0 0, .slice none 0 0]], []⟩
theorem wit1 (os : Os) : (World.plainHolding Try.checked.prog os wit).variablesB Try.checked.prog = true := by kernel_rfl
theorem wit2 (os : Os) : ((World.plainHolding Try.checked.prog os wit).heap.toList.drop Try.checked.prog.globals.size).take ((begin Try.checked.prog (fun _ _ => 0) default).world.heap.size - Try.checked.prog.globals.size) =
    (begin Try.checked.prog (fun _ _ => 0) default).world.heap.toList.drop Try.checked.prog.globals.size := by kernel_rfl
theorem wit3 (os : Os) : Input.okWideB Try.checked.prog (World.plainHolding Try.checked.prog os wit) 4 ⟨#[], wit.args, []⟩ = true := by kernel_rfl
theorem wit4 (os : Os) (H : Type) (enc : TypeId × Value → H) : Rows.fnExactVectorOfSpec.preB enc Try.checked.prog Try.f4 Rows.fnExactVectorOfRow.domain false (World.plainHolding Try.checked.prog os wit).memory wit.args 8 = true := by kernel_rfl
theorem wit5 (os : Os) (H : Type) (enc : TypeId × Value → H) : Rows.fnExactVectorOfSpec.sizedB enc Try.checked.prog Try.f4 false (World.plainHolding Try.checked.prog os wit).memory wit.args 8 = true := by kernel_rfl

/-! ### THE ROW's STEP: WRITTEN OUT: LEAVE IT -/
set_option maxRecDepth 100000 in
theorem lifted (os : Os) (started : os.Started) (H : Type) (enc : TypeId × Value → H) :
    ReturnsInHanded {} Try.checked os 4 .any (Rows.fnExactVectorOfSpec.pre6 enc Try.prog Try.f4 Rows.fnExactVectorOfRow.domain false) (Rows.fnExactVectorOfSpec.post enc Try.prog Try.f4 false true false false) := by
  have hw := ChangeSpec.witness6 (enc := enc) (C := Try.checked) (fn := Try.f4) (s := Rows.fnExactVectorOfSpec) (conds := Rows.fnExactVectorOfRow.domain) (apart := false) false wit 8 (wit1 os) (wit2 os) (wit3 os) (wit4 os H enc) (wit5 os H enc)
  refine returnsInHanded_of_change (C := Try.checked) own started (by kernel_rfl) Try.func4 hw ?_
  intro W base args ds gs before hval0 hW hcnd _
  have hval : ∀ (j : Nat) t v, Try.f4.params[j]? = some t → args[j]? = some v → Value.okWide Try.prog W .any base t v := hval0
  have hW' := hW
  obtain ⟨p, q, hA0, hV, rfl, hfz, hnd⟩ := hW
  have hA : DataW.TrodAll enc Try.prog W 0 (fun _ => true) true Try.f4.params.toList args.toList ds p := hA0
  rw [Try.params4] at hA hval
  obtain ⟨v0, vs0, d0, ds0, p0, q0, hargs, rfl, rfl, h0, r0⟩ := trodAll_cons hA
  obtain ⟨rfl, rfl, rfl⟩ := trodAll_nil r0
  obtain rfl : args = #[v0] := by cases args; simp_all
  obtain ⟨rfl, rfl⟩ := trodVars_none hV
  obtain ⟨cells0, rfl, hsz0⟩ := okWide_struct Try.underlying32 (hval 0 32 v0 rfl rfl)
  have k0 := h0
  have lt0 : ∀ x ∈ p0, x.block < W.heap.size := by obtain ⟨m, hm⟩ := k0; exact DataW.trod_lt m _ _ _ hm
  obtain ⟨y0, A0_2, c0_2, A0_3, c0_3, A0_4, c0_4, rfl, wr0, wf0⟩ := opened_Init h0
  have w0 := And.intro wr0 wf0
  clear hA0 hval0
  refine (walk y0 A0_2 c0_2 A0_3 c0_3 A0_4 c0_4 W w0).mono fun e W' ⟨he, bel⟩ => ?_
  subst he
  exact ⟨_, rfl, _, _, _, [], _, [], hW', trodAll_mk1 (shut_bool Try.underlying4 _), (trodAll_cons_mk (Below.trod laidOut (by kernel_rfl) (of_decide_eq_true (by kernel_rfl)) k0 bel lt0) trodAll_mk0), rfl, bel.frame _, fun h => by cases h⟩

theorem over : Rows.fnExactVectorOfRow.holds Try.pinned (OpenSpec.ofChange Rows.fnExactVectorOfSpec) :=
  OpenClaim.holds_of_wide 4 Try.f4 rfl rfl rfl rfl rfl rfl rfl ⟨rfl, rfl, rfl, rfl, rfl⟩ rfl rfl rfl rfl rfl (by kernel_rfl) Try.func4 (by kernel_rfl)
    (of_decide_eq_true (by kernel_rfl)) (by unfold Func.isWrapper; first | (rw [if_pos (by decide +kernel)]; kernel_rfl) | (rw [if_neg (by decide +kernel)]; exact ⟨rfl, rfl⟩))
    (fun os started H enc _ => lifted os started H enc)

/-- ████ THE STATEMENT ████ -/
theorem proved : Rows.FnExactVectorOfSaid := over
#print axioms proved
end Go.Proofs.Ytjjileefdjjijaa.fnExactVectorOf
