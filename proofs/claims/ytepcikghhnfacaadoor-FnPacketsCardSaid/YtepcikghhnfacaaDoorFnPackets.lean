/- At every slice of bytes the law FnPackets answers true. -/
import Derived.Test.YtepcikghhnfacaaDoorRows
import Derived.Test.YtepcikghhnfacaaDoorCards
import Derived.Test.YtepcikghhnfacaaDoorTie
import Derived.SevenTiedAt
import Derived.LaidMore
import Derived.LaidLaws
import Derived.ChangeVars
import Derived.RowKitTokens
import Derived.Stop.Joined
import Derived.Stop.LaidErr
import Derived.Test.YtepcikghhnfacaaDoorJb5
import Derived.Test.YtepcikghhnfacaaDoorFqR
import Derived.WalkSpells
import Derived.WalkLawsBesides
import Derived.WalkKit
import Derived.ProofKit
import Derived.OpenShut
import Derived.ShutString
import Derived.ChangeOld
import Derived.Below
namespace Go.Proofs.YtepcikghhnfacaaDoor.fnPackets
open Go.ChangeShapes Go.WideShapes Go.ChangeAt Go.RowKit
open Go.ChangeMaps (open_string shut_string)
set_option linter.unusedVariables false

theorem own : ownKnob Tryd.prog.godebug = none := by kernel_rfl
theorem laidOut : laidOutB Tryd.prog = true := by kernel_rfl

/-- WHAT THE WALK IS TOLD OF A SLICE OF INTEGERS THAT CAME IN: it is nil; or it leads to a row of 'cap' cells, the numbers 'zs' (the first 'len' are its elements, the rest its spare room), each fitting its kind. -/
def IsRow (k : IntKind) (w : World) (a : Option Addr) (len cap : Nat) (zs : List Int) : Prop :=
  (a = none ∧ len = 0 ∧ cap = 0 ∧ zs = []) ∨
  ∃ x, a = some x ∧ len ≤ cap ∧ cap ≤ maxLen ∧ zs.length = cap ∧ (∀ i, i < zs.length → w.cell? (x.add i) = some (.int k (zs.getD i 0))) ∧ ∀ n ∈ zs, (Lit.int k n).wf = true


set_option maxRecDepth 100000 in
set_option maxHeartbeats 4000000 in
theorem walk (a0 : Option Addr) (len0 cap0 : Nat) (z0 : List Int) (w : World) (w0 : IsRow .u8 w a0 len0 cap0 z0) (ty : TypeId) (pv : Value) (hE : w.cell? ⟨0, 0, none⟩ = some (.iface ty pv)) :
    Calls Tryd.prog 3 #[.slice a0 len0 cap0] w fun e w' => e = .returned (.bool true) ∧ Below w.heap.size w w' := by
  obtain ⟨l, rfl, hA, hl, hlc, hcap⟩ := row_bs w0
  clear w0
  by_cases hbig : (1048576 : Int) < (l.length : Int)
  · have hd : decide ((1048576 : Int) < (l.length : Int)) = true := by simpa using hbig
    clear hbig
    go_enter Tryd.func3, Tryd.ntmps3
    go_wp2_with (go_at_call 5; refine (big_pk _ _ _ _).mono ?_; rintro e w' ⟨rfl, rfl⟩)
    go_ret
    exact ⟨rfl, Below.refl _ _⟩
  · have hlen : (l.length : Int) ≤ 1048576 := by omega
    have hd : decide ((1048576 : Int) < (l.length : Int)) = false := by simpa using hlen
    clear hbig
    have hpos : 0 < w.heap.size := World.block_lt_of_cell? _ _ hE
    have HE := hidH (fun (u : World) (h : Below w.heap.size w u) => (h.cell (p := ⟨0, 0, none⟩) hpos).trans hE)
    clear hE hpos
    go_enter Tryd.func3, Tryd.ntmps3
    go_wp2_with (go_at_call 5; refine (big_pk _ _ _ _).mono ?_; rintro e w' ⟨rfl, rfl⟩)
    refine (drawPackPacket_any _ _ _ _ hA hl hlen).mono ?_
    rintro e w1 ⟨tag, cs, P, cp, rfl, ht, hcs, hcn, hO, b1⟩
    have hbb : ∀ x ∈ cs, Bytes x.body := fun x hx => (hcs x hx).1
    have hbl : ∀ x ∈ cs, (x.body.length : Int) ≤ 9223372036854775807 := fun x hx => by have := (hcs x hx).2; omega
    have hcl : (cs.length : Int) ≤ 9223372036854775807 := by omega
    have HBB := hidH (And.intro hbb hcl)
    have K2 := Blk.new w1 26 #[.int .i64 tag, .slice P cs.length cp]
    have bn := bal (Below.refl w1.heap.size w1) (.cells #[.int .i64 tag, .slice P cs.length cp] 26)
    have S2 := hO.cs.below bn
    have B2 := btr b1 bn
    have HPK := hidH (fun (u : World) (h : Cs u P cs) => packPacket_impl tag P cs cp u h hcl hbl hbb)
    have HF1 := hidH (fun (u : World) (h : Cs u P cs) => pkFault_spec tag P cs cp u h hcl hbl)
    have HF2 := hidH (fun (u : World) (h : Cs u P cs) => pkFault_impl tag P cs cp u h hcl hbl)
    have HMB := hidH (And.intro (pkM_bytes (tag := tag) hbb) (pkM_le tag cs))
    have HZ := hidH (fun (h : pkF tag cs = 0) => show pkM tag cs = pkL tag cs from if_pos h)
    unfold pkV at HPK HF1 HF2
    obtain ⟨C, hC⟩ : ∃ C, pkF tag cs = C := ⟨_, rfl⟩
    obtain ⟨M, hM⟩ : ∃ M, pkM tag cs = M := ⟨_, rfl⟩
    rw [hC] at HPK HF1 HF2
    rw [hM] at HPK HMB HZ
    have HC := hidH hC
    obtain ⟨w2, hw2⟩ : ∃ w2, w1.alloc (.cells #[.int .i64 tag, .slice P cs.length cp] 26) = w2 := ⟨_, rfl⟩
    rw [hw2] at K2 S2 B2
    have HW2 := hidH hw2
    clear hC hM hw2 hO b1 bn hbb hbl hcl hcs hcn ht
    unfold pkV
    obtain ⟨p3, q3, z3⟩ := K2.two
    go_wp2_with (fail)
    rw [HW2.out]
    clear p3 q3 z3
    refine (HPK.out _ S2).mono ?_
    rintro e w3 ⟨A4, c4, rfl, O4, b4, h4a, h4b⟩
    have K3 := K2.below b4
    have S3 := S2.below b4
    have B3 := btr B2 b4
    have bn := bal (Below.refl w3.heap.size w3) (.cells #[.int .i64 C, .slice A4 M.length c4] 29)
    have X4 := Blk.new w3 29 #[.int .i64 C, .slice A4 M.length c4]
    have K4 := K3.below bn
    have S4 := S3.below bn
    have B4 := btr B3 bn
    have M4 := bs_below O4.bs bn
    have L4 := bs_below hA B4
    have H4 := hidH (And.intro h4a h4b)
    obtain ⟨w4, hw4⟩ : ∃ w4, w3.alloc (.cells #[.int .i64 C, .slice A4 M.length c4] 29) = w4 := ⟨_, rfl⟩
    rw [hw4] at X4 K4 S4 B4 M4 L4
    have HW4 := hidH hw4
    clear K3 S3 B3 b4 bn O4 h4a h4b hw4 K2 S2 B2 HPK HW2
    go_wp2_with (fail)
    rw [HW4.out]
    refine (drawReadPacket_any a0 l cap0 w4 L4 hl hlen).mono ?_
    rintro e w5 ⟨D, X, cx, rfl, hDB, hDl, hX, hcx, hcm, b5⟩
    have K5 := K4.below b5
    have S5 := S4.below b5
    have X5 := X4.below b5
    have M5 := bs_below M4 b5
    have B5 := btr B4 b5
    have IM := readPacket_impl X D cx w5 ty pv hX hDB (by omega) hcx hcm (HE.out _ B5)
    have HSP := hidH (fun (u : World) (h : Bs u X D) => readPacket_spec X D cx u h hDB (by omega) hcx hcm)
    have HRZ := hidH (fun (h : rdC D = 0) => rd_zero hDB h)
    unfold RdOwn at IM HSP
    obtain ⟨C6, hC6⟩ : ∃ C6, rdC D = C6 := ⟨_, rfl⟩
    obtain ⟨T6, hT6⟩ : ∃ T6, rdT D = T6 := ⟨_, rfl⟩
    obtain ⟨S6, hS6⟩ : ∃ S6, rdCs D = S6 := ⟨_, rfl⟩
    rw [hC6, hT6, hS6] at IM HSP HRZ
    have HIM := hidH IM
    have HD := hidH hX
    clear K4 S4 X4 M4 B4 L4 b5 HW4 hC6 hT6 hS6 IM hX hcx hcm hDl
    go_wp2_with (fail)
    refine HIM.out.mono ?_
    rintro e w6 ⟨P6, c6, rfl, O6, b6⟩
    have bn := bal (Below.refl w6.heap.size w6) (.cells #[.int .i64 C6, .int .i64 T6, .slice P6 S6.length c6] 33)
    have B6 := btr (btr B5 b6) bn
    have V : FpM w w1.heap.size w3.heap.size w6.heap.size tag P cs cp C A4 M c4 X D C6 T6 P6 S6 c6 a0 l ty pv (w6.alloc (.cells #[.int .i64 C6, .int .i64 T6, .slice P6 S6.length c6] 33)) :=
      ⟨(K5.below b6).below bn, (S5.below b6).below bn, (X5.below b6).below bn, bs_below (bs_below M5 b6) bn, bs_below (bs_below HD.out b6) bn, Blk.new w6 _ _, O6.cs.below bn, bs_below hA B6, HE.out _ B6, B6⟩
    obtain ⟨w7, hw7⟩ : ∃ w7, w6.alloc (.cells #[.int .i64 C6, .int .i64 T6, .slice P6 S6.length c6] 33) = w7 := ⟨_, rfl⟩
    rw [hw7] at V
    have HW7 := hidH hw7
    have HV := hidH V
    clear K5 S5 X5 M5 B5 b6 bn B6 O6 V hw7 HIM HD
    generalize w1.heap.size = q3 at *
    generalize w3.heap.size = q4 at *
    have G1 := hidH (fun (u : World) (h : FpM w q3 q4 w6.heap.size tag P cs cp C A4 M c4 X D C6 T6 P6 S6 c6 a0 l ty pv u) => HF1.out u h.pcs)
    have G2 := hidH (fun (u : World) (h : FpM w q3 q4 w6.heap.size tag P cs cp C A4 M c4 X D C6 T6 P6 S6 c6 a0 l ty pv u) => HF2.out u h.pcs)
    have G3 := hidH (fun (u : World) (h : FpM w q3 q4 w6.heap.size tag P cs cp C A4 M c4 X D C6 T6 P6 S6 c6 a0 l ty pv u) => (HSP.out u h.bd).mono fun e w' q => show ∃ (T1 : Int) (P1 : Option Addr) (n1 c1 : Nat), e = .returned (.agg #[.int .i64 C6, .int .i64 T1, .slice P1 n1 c1]) ∧ Below u.heap.size u w' from by
      obtain ⟨P1, c1, h1, _, h3⟩ := q
      exact ⟨T6, P1, _, c1, h1, h3⟩)
    clear HF1 HF2 HSP hlc
    go_wp2_with (fail)
    rw [HW7.out]
    clear HW7
    generalize w6.heap.size = q6 at *
    refine wp_region_any (by kernel_rfl) ?_
    refine regFp7 _ _ _ _ _ _ _ _ _ _ _ _ _ _ _ w q3 q4 q6 tag P cs cp C A4 M c4 X D cx C6 T6 P6 S6 c6 a0 l ty pv G1.out G2.out G3.out (by kernel_rfl) (by kernel_rfl) (by kernel_rfl) rfl (HV.out.below (Below.refl _ _).drew) ?_
    intros
    rename_i W9 hM
    have HV7 := hidH hM
    clear hM HV G1 G2 G3
    by_cases hz6 : C6 = 0
    case' pos =>
      subst hz6
      obtain ⟨z1, z2, z3, z4, _, _, _⟩ := HRZ.out rfl
      have GP := hidH (fun (u : World) (h : FpM w q3 q4 q6 tag P cs cp C A4 M c4 X D 0 T6 P6 S6 c6 a0 l ty pv u) => (packPacket_impl T6 P6 S6 c6 u h.rcs (by omega) (fun x hx => by have := (z3 x hx).2; omega) (fun x hx => (z3 x hx).1)).mono fun e w' q => show ∃ (A1 : Option Addr) (c1 : Nat), e = .returned (.agg #[.int .i64 0, .slice A1 D.length c1]) ∧ Bs w' A1 D ∧ Below u.heap.size u w' from by
        obtain ⟨A1, c1, h1, h2, h3, _⟩ := q
        rw [z1, z2] at h1
        rw [z2] at h2
        exact ⟨A1, c1, h1, h2.bs, h3⟩)
      unfold pkV at GP
      clear z1 z2 z3 z4 HRZ
      obtain ⟨y0, y1, y2, yz⟩ := HV7.out.rp.three
      go_wp2_with (fail)
      refine (GP.out _ HV7.out).mono ?_
      rintro e w8 ⟨A1, c1, rfl, hT, b8⟩
      have f1 := fldBR1
      have HV8 := hidH (HV7.out.below b8)
      have HT := hidH hT
      clear y0 y1 y2 yz b8 HV7 GP hT
      go_wp2_with (fail)
      refine (lwB_sameB2 _ _ D _ _ _ HT.out HV8.out.bd).mono ?_
      rintro e W9 ⟨rfl, b9⟩
      have hM9 := HV8.out.below b9
      clear HV8 HT b9 f1
    case' neg =>
      have hc6 : (C6 == 0) = false := by simp [hz6]
      obtain ⟨v0, v1, v2, vz⟩ := HV7.out.rp.three
      have hM9 := HV7.out
      clear hz6 HRZ HV7 v1 v2
    all_goals
      obtain ⟨K6, hM9⟩ : ∃ K6, FpM w q3 q4 q6 tag P cs cp C A4 M c4 X D K6 T6 P6 S6 c6 a0 l ty pv W9 := ⟨_, hM9⟩
      have HV9 := hidH hM9
      have HB9 := hidH hM9.old
      obtain ⟨x0, x1, xz⟩ := hM9.rs.two
      have HX9 := hidH hM9.rs
      have HMM := hidH hM9.bm
      have HER := hidH hM9.err
      clear hM9
      by_cases hz : C = 0
      · subst hz
        have hML := HZ.out HC.out
        have hrp := rd_pack HC.out HBB.out.1
        rw [← hML] at hrp
        obtain ⟨r1, r2, r3⟩ := hrp
        have hmod : (M.length : Int).tmod 4 = 0 := by
          have := pkL_mod tag cs
          rw [← hML] at this
          rw [Int.tmod_eq_emod_of_nonneg (by omega)]
          omega
        obtain ⟨_, _, _, _, h8, h500, _⟩ := rd_zero HMB.out.1 r1
        have IM := readPacket_impl A4 M c4 W9 ty pv HMM.out HMB.out.1 (by omega) H4.out.1 H4.out.2 HER.out
        unfold RdOwn at IM
        rw [r1, r2, r3] at IM
        have HIM := hidH IM
        have HMF := hidH (And.intro hmod (And.intro h8 (And.intro h500 r1)))
        clear IM hML r1 r2 r3 hmod h8 h500 HMM HER
        go_wp2_with (fail)
        refine HIM.out.mono ?_
        rintro e w10 ⟨P7, c7, rfl, O7, b10⟩
        have bn := bal (Below.refl w10.heap.size w10) (.cells #[.int .i64 0, .int .i64 tag, .slice P7 cs.length c7] 33)
        have VA := (HV9.out.below b10).below bn
        have VB := Blk.new w10 33 #[.int .i64 0, .int .i64 tag, .slice P7 cs.length c7]
        have VC := O7.cs.below bn
        obtain ⟨w11, hw11⟩ : ∃ w11, w10.alloc (.cells #[.int .i64 0, .int .i64 tag, .slice P7 cs.length c7] 33) = w11 := ⟨_, rfl⟩
        rw [hw11] at VA VB VC
        have HW11 := hidH hw11
        have HVA := hidH VA
        have HVB := hidH VB
        have HVC := hidH VC
        clear VA VB VC hw11 bn O7 b10 HIM HV9 HB9 x0 x1 xz HX9
        have mI : (M.length : Int) ≤ 500 := by have := HMF.out.2.2.1; omega
        have m8 : (8 : Int) ≤ (M.length : Int) := by have := HMF.out.2.1; omega
        have A2 := hidH (fun (u : World) (h : FpM w q3 q4 q6 tag P cs cp 0 A4 M c4 X D K6 T6 P6 S6 c6 a0 l ty pv u) => at_nat a0 l cap0 2 (M.length : Int) u h.code hl hlen (by omega) (by omega) (by omega))
        have A3 := hidH (fun (u : World) (h : FpM w q3 q4 q6 tag P cs cp 0 A4 M c4 X D K6 T6 P6 S6 c6 a0 l ty pv u) => at_nat a0 l cap0 3 255 u h.code hl hlen (by omega) (by omega) (by omega))
        have A4' := hidH (fun (u : World) (h : FpM w q3 q4 q6 tag P cs cp 0 A4 M c4 X D K6 T6 P6 S6 c6 a0 l ty pv u) (i m : Nat) (hi : (i : Int) < (M.length : Int)) (hm : (m : Int) < 255) => turned_cap A4 M c4 i m u h.bm HMB.out.1 (by omega) (by omega) (by omega))
        have A5 := hidH (fun (u : World) (i m : Nat) (A' : Option Addr) (c' : Nat) (h : FpM w q3 q4 q6 tag P cs cp 0 A4 M c4 X D K6 T6 P6 S6 c6 a0 l ty pv u) (hi : (i : Int) < (M.length : Int)) (hm : (m : Int) < 255) (hT : Bs u A' (turnL M i (1 + m)) ∧ (turnL M i (1 + m)).length ≤ c' ∧ (c' : Int) ≤ 9223372036854775807) => (readPacket_impl A' (turnL M i (1 + m)) c' u ty pv hT.1 (turnL_bytes HMB.out.1 i (1 + m) (by omega)) (by rw [turnL_len]; omega) hT.2.1 hT.2.2 h.err).mono fun e w' q => show ∃ (T1 : Int) (P1 : Option Addr) (n1 c1 : Nat), e = .returned (.agg #[.int .i64 9, .int .i64 T1, .slice P1 n1 c1]) ∧ Below u.heap.size u w' from by
          obtain ⟨P1, c1, h1, _, h3⟩ := q
          rw [rd_turnL HMB.out.1 HMF.out.2.2.2 i m (by omega) (by omega)] at h1
          exact ⟨_, P1, _, c1, h1, h3⟩)
        go_wp2_with (fail)
        rw [HW11.out]
        generalize w10.heap.size = q7 at *
        refine wp_region_any (by kernel_rfl) ?_
        refine regFp14 _ _ _ _ _ _ _ _ _ _ _ _ _ _ _ _ _ _ _ _ _ _ _ _ _ _ _ _ _ _ _ _ _ _ _ _ _ _ _ _ _ _ _ _ _ _ _ _ _ _ _ cap0 w q3 q4 q6 tag P cs cp 0 A4 M c4 X D cx K6 T6 P6 S6 c6 a0 l ty pv A2.out A3.out A4'.out A5.out (by kernel_rfl) (by kernel_rfl) (by kernel_rfl) rfl ⟨(fun h => h), (fun h => h), (fun h => h), (fun h => h)⟩ (fun h => h) ⟨(fun h => h), (fun h => h), (fun h => h)⟩ ⟨(fun h => h), (fun h => h)⟩ (fun h => h) (HVA.out.below (Below.refl _ _).drew) (Below.refl _ _) ?_
        intro s57 s58 s59 s60 s61 s62 s63 s64 s65 s66 s67 s68 s8 W14 hW14 hX14
        obtain ⟨q8, T8, P8, n8, c8, rfl, K8⟩ := hX14
        have HA14 := hidH ((HVA.out.below (Below.refl _ _).drew).below hW14)
        have HB14 := hidH ((HVB.out.below (Below.refl _ _).drew).below hW14)
        have HC14 := hidH ((HVC.out.below (Below.refl _ _).drew).below hW14)
        have HK8 := hidH K8
        clear HVA HVB HVC K8 hW14 A2 A3 A4' A5 HW11
        have hbl : ∀ x ∈ cs, Bytes x.body := HBB.out.1
        have F1 := hidH (fun (u : World) (h : FpM w q3 q4 q6 tag P cs cp 0 A4 M c4 X D K6 T6 P6 S6 c6 a0 l ty pv u) (h7 : Cs u P7 cs) => (samePk_impl tag tag P7 P cs cs c7 cp u h7 h.pcs hbl hbl HBB.out.2 HBB.out.2).mono fun e w' q => show e = .returned (.bool true) ∧ Below u.heap.size u w' from by
          obtain ⟨r, h1, h2, h3⟩ := q
          rw [h1, h2.2 ⟨rfl, rfl⟩]
          exact ⟨rfl, h3⟩)
        have F2 := hidH (fun (u : World) (h : FpM w q3 q4 q6 tag P cs cp 0 A4 M c4 X D K6 T6 P6 S6 c6 a0 l ty pv u) (h7 : Cs u P7 cs) => (samePk_spec tag tag P7 P cs cs c7 cp u h7 h.pcs hbl hbl HBB.out.2 HBB.out.2).mono fun e w' q => show e = .returned (.bool true) ∧ Below u.heap.size u w' from by
          obtain ⟨r, h1, h2, h3⟩ := q
          rw [h1, h2.2 ⟨rfl, rfl⟩]
          exact ⟨rfl, h3⟩)
        unfold pkV at F1 F2
        have HMI := hidH mI
        clear hbl mI m8
        obtain ⟨y0, y1, y2, yz⟩ := HB14.out.three
        obtain ⟨x0, x1, xz⟩ := HA14.out.pk.two
        go_wp2_with (fail)
        refine (F1.out _ HA14.out HC14.out).mono ?_
        rintro e w15 ⟨rfl, b15⟩
        have HA15 := hidH (HA14.out.below b15)
        have HB15 := hidH (HB14.out.below b15)
        have HC15 := hidH (HC14.out.below b15)
        have HK15 := hidH (HK8.out.below b15)
        clear y0 y1 y2 yz x0 x1 xz b15 HA14 HB14 HC14 HK8 F1
        obtain ⟨y0, y1, y2, yz⟩ := HB15.out.three
        obtain ⟨x0, x1, xz⟩ := HA15.out.pk.two
        go_wp2_with (fail)
        refine (F2.out _ HA15.out HC15.out).mono ?_
        rintro e w16 ⟨rfl, b16⟩
        have HA16 := hidH (HA15.out.below b16)
        have HK16 := hidH (HK15.out.below b16)
        clear y0 y1 y2 yz x0 x1 xz b16 HA15 HB15 HC15 HK15 F2
        obtain ⟨y0, y1, y2, yz⟩ := HK16.out.three
        obtain ⟨x0, x1, xz⟩ := HA16.out.rs.two
        have HF := hidH HA16.out.old
        have t5 : (M.length : Int) % 4 = 0 := by
          have h := HMF.out.1
          rw [Int.tmod_eq_emod_of_nonneg (by omega)] at h
          exact h
        have t4 : ((M.length : Int) % 4 == 0) = true := by rw [t5]; rfl
        have t2 : decide ((M.length : Int) ≤ 500) = true := by have := HMI.out; simp; omega
        have t3 : (M.length : Int) ≤ 500 := HMI.out
        go_wp2
        go_ret
        exact ⟨rfl, HF.out⟩
      · have hne : (C != 0) = true := by rw [bne_iff_ne]; exact hz
        clear hz
        go_wp2
        go_ret
        exact ⟨rfl, HB9.out⟩

/-! ### WHAT THE ROW LISTS: the sentinel -/
theorem gE : Tryd.prog.globalNamed "loop.example/g00670/impl.errUnreadable" = some 0 := by kernel_rfl
theorem tE : (Tryd.prog.globals[0]?).map (·.type) = some 90 := by kernel_rfl
theorem cellsE : Tryd.prog.cellsOf 116 = 1 := by kernel_rfl
theorem cellsS : Tryd.prog.cellsOf 9 = 1 := by kernel_rfl
theorem star : "*" ++ "errors.errorString" = "*errors.errorString" := by decide
theorem rowE (u : TypeId) (h : Tryd.prog.typeName? 3 u = some "*errors.errorString") : u = 99 :=
  typeName_ptr_named (nm := "errors.errorString") (by rw [star]; kernel_rfl) (by kernel_rfl) (by decide) u (by rw [star]; exact h)
/-- The door's own heap meets the condition. -/
theorem door_met (os : Os) (args : Array Value) : laidMetH Tryd.prog Rows.fnPacketsRow.laid ((World.doorLaid Tryd.prog 28 os).forCall (fun _ _ => 0) ⟨#[], args, []⟩).memory :=
  laidMetH_of_parts3 (fuel := 8) (laidMet_of_run' 8 (by kernel_rfl) (by kernel_rfl)) (by kernel_rfl) (by kernel_rfl)

/-! ### THE ROW's STEP: WRITTEN OUT: LEAVE IT -/
set_option maxRecDepth 100000 in
theorem lifted (os : Os) (started : os.Started) (H : Type) (enc : TypeId × Value → H) :
    ReturnsInHanded {} Tryd.checked os 3 .any (fun w args => (Rows.fnPacketsSpec.pre enc Tryd.prog Tryd.f3 [] false w args ∧ laidMetH Tryd.prog Rows.fnPacketsRow.laid w) ∧ sizedMet enc Tryd.prog Tryd.f3 (OpenSpec.ofChange Rows.fnPacketsSpec) false w args) (Rows.fnPacketsSpec.post enc Tryd.prog Tryd.f3 false true false false) := by
  refine returnsInHanded_of_change_and (C := Tryd.checked) (X := fun w _ => laidMetH Tryd.prog Rows.fnPacketsRow.laid w) (fun _ _ _ hh h => h.of_heap hh) own started (by kernel_rfl) Tryd.func3
    (ChangeSpec.witness_shaped (enc := enc) (C := Tryd.checked) (os := os) (X := fun w _ => laidMetH Tryd.prog Rows.fnPacketsRow.laid w) false (World.doorLaid Tryd.prog 28 os) #[.slice none 0 0] 8 rfl (World.shaped_of_RefB (by kernel_rfl) (by kernel_rfl)) (by kernel_rfl) (by kernel_rfl) (by kernel_rfl) (door_met os _)) ?_
  intro W base args ds gs before hval0 hW _ _ hL _
  have hval : ∀ (j : Nat) t v, Tryd.f3.params[j]? = some t → args[j]? = some v → Value.okWide Tryd.prog W .any base t v := hval0
  have hW' := hW
  obtain ⟨p, q, hA0, hV, rfl, hfz, hnd⟩ := hW
  have hA : DataW.TrodAll enc Tryd.prog W 0 (fun _ => true) true Tryd.f3.params.toList args.toList ds p := hA0
  rw [Tryd.params3] at hA hval
  obtain ⟨v0, vs0, d0, ds0, p0, q0, hargs, rfl, rfl, h0, r0⟩ := trodAll_cons hA
  obtain ⟨rfl, rfl, rfl⟩ := trodAll_nil r0
  obtain rfl : args = #[v0] := by cases args; simp_all
  have hV1 : DataW.TrodVars enc Tryd.prog W (fun _ => true) ["loop.example/g00670/impl.errUnreadable"] gs q := hV
  have hL1 := hL
  rw [MakeChecks.laidMetH_plain _ _ _ (by kernel_rfl)] at hL1
  obtain ⟨ae, se, hve, hce, hse, hze⟩ := laid_sentinel hL1 gE tE Tryd.underlying90 rowE Tryd.underlying99 Tryd.underlying116 rfl rfl Tryd.underlying9 cellsE cellsS
  obtain ⟨rfl, rfl⟩ := hV1.unique (vars_read1 enc gE tE Tryd.underlying90 hve trivial _)
  have hE : W.cell? ⟨0, 0, none⟩ = some (.iface 99 (.pointer (some ae))) := by simpa using World.var?_cell gE hve 0
  obtain ⟨a0, len0, cap0, rfl⟩ := okWide_slice Tryd.underlying22 (hval 0 22 v0 rfl rfl)
  have k0 := h0
  have lt0 : ∀ x ∈ p0, x.block < W.heap.size := by obtain ⟨m, hm⟩ := k0; exact DataW.trod_lt m _ _ _ hm
  obtain ⟨z0, w0⟩ : ∃ zs, IsRow .u8 W a0 len0 cap0 zs := by
    obtain ⟨fuel, hf⟩ := h0
    rcases open_ints Tryd.underlying22 Tryd.underlying5 (by kernel_rfl) hf with ⟨hcs, _⟩ | ⟨x, l, c, zs, hcs, _, hl, hm, hz, _, hcell, hwz⟩
    · simp [Value.cells] at hcs
      obtain ⟨rfl, rfl, rfl⟩ := hcs
      exact ⟨[], .inl ⟨rfl, rfl, rfl, rfl⟩⟩
    · simp [Value.cells] at hcs
      obtain ⟨rfl, rfl, rfl⟩ := hcs
      exact ⟨zs, .inr ⟨_, rfl, hl, hm, by simpa using hz, hcell, hwz⟩⟩
  clear hA0 hval0
  refine (walk a0 len0 cap0 z0 W w0 _ _ hE).mono fun e W' ⟨he, bel⟩ => ?_
  subst he
  have hve2 : W'.var? Tryd.prog "loop.example/g00670/impl.errUnreadable" = some #[.iface 99 (.pointer (some ae))] := by
    have hb0 := bel.block 0 (World.block_lt_of_cell? _ _ hE)
    simpa [World.var?, gE, hb0] using hve
  exact ⟨_, rfl, _, _, _, [], _, [.cell 0 0], hW', trodAll_mk1 (shut_bool Tryd.underlying4 _), (trodAll_cons_mk (Below.trod laidOut (by kernel_rfl) (of_decide_eq_true (by kernel_rfl)) k0 bel lt0) trodAll_mk0), vars_read1 enc gE tE Tryd.underlying90 hve2 trivial _, bel.frame _, fun h => by cases h⟩

theorem over : Rows.fnPacketsRow.holds Tryd.pinned (OpenSpec.ofChange Rows.fnPacketsSpec) :=
  OpenClaim.holds_of_wide 3 Tryd.f3 rfl rfl rfl rfl rfl rfl rfl ⟨rfl, rfl, rfl, rfl, rfl⟩ rfl rfl rfl rfl rfl (by kernel_rfl) Tryd.func3 (by kernel_rfl)
    (of_decide_eq_true (by kernel_rfl)) (by unfold Func.isWrapper; first | (rw [if_pos (by decide +kernel)]; kernel_rfl) | (rw [if_neg (by decide +kernel)]; exact ⟨rfl, rfl⟩))
    (fun os started H enc _ => lifted os started H enc)

/-- ████ THE STATEMENT: THE TIED CARD ████ -/
theorem proved : Rows.FnPacketsCardSaid :=
  Claim7.holds_tied_plain_at .later [] [.sentinel] true (true, "c4d118b3e77b0ba63057f23a4a909063bfe29afee880fc7c4e4ba8f26c7b8265") false
    over (fun _ h => by cases h) (by kernel_rfl) (fun _ h => by cases h) fnPackets_row_tie rfl ⟨rfl, rfl⟩ (by kernel_rfl) rfl
    (fun f fn hf hfn => by
      obtain rfl : f = 3 := Option.some.inj ((show Tryd.prog.funcNamed "loop.example/g00670/laws.FnPackets" = some 3 by kernel_rfl).symm.trans hf) |>.symm
      obtain rfl : fn = Tryd.f3 := (Option.some.inj (Tryd.func3.symm.trans hfn)).symm
      exact ⟨by kernel_rfl, fun j t ht => by
        rw [Tryd.params3] at ht
        have hm : t ∈ [22] := by simpa using Array.mem_of_getElem? ht
        have hall : ([22].all fun u => !Tryd.prog.wantsStandIn u) = true := by kernel_rfl
        exact (show Tryd.prog.wantsStandIn t = false by simpa using List.all_eq_true.1 hall t hm)⟩)
    (by kernel_rfl)
#print axioms proved
end Go.Proofs.YtepcikghhnfacaaDoor.fnPackets
