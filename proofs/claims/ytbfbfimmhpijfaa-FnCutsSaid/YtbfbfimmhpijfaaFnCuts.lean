/- At every slice of bytes the law FnCuts answers true. -/
import Derived.Test.YtbfbfimmhpijfaaRows
import Derived.Test.YtbfbfimmhpijfaaS8FR
import Derived.Test.YtbfbfimmhpijfaaNa4
import Derived.Test.YtbfbfimmhpijfaaNa5
import Derived.Test.YtbfbfimmhpijfaaDrJp8
import Derived.Test.YtbfbfimmhpijfaaS8I
import Derived.Test.YtbfbfimmhpijfaaNa8
import Derived.Test.YtbfbfimmhpijfaaNb0
import Derived.Test.YtbfbfimmhpijfaaNa6
import Derived.Test.YtbfbfimmhpijfaaNa2
import Derived.WalkSpells
import Derived.WalkLawsBesides
import Derived.WalkKit
import Derived.ProofKit
import Derived.OpenShut
import Derived.ShutString
import Derived.ChangeOld
import Derived.Below
namespace Go.Proofs.Ytbfbfimmhpijfaa.fnCuts
open Go.ChangeShapes Go.WideShapes Go.ChangeAt Go.RowKit
open Go.ChangeMaps (open_string shut_string)
set_option linter.unusedVariables false

theorem own : ownKnob Try.prog.godebug = none := by kernel_rfl
theorem laidOut : laidOutB Try.prog = true := by kernel_rfl

/-- WHAT THE WALK IS TOLD OF A SLICE OF INTEGERS THAT CAME IN: it is nil; or it leads to a row of 'cap' cells, the numbers 'zs' (the first 'len' are its elements, the rest its spare room), each fitting its kind. -/
def IsRow (k : IntKind) (w : World) (a : Option Addr) (len cap : Nat) (zs : List Int) : Prop :=
  (a = none ∧ len = 0 ∧ cap = 0 ∧ zs = []) ∨
  ∃ x, a = some x ∧ len ≤ cap ∧ cap ≤ maxLen ∧ zs.length = cap ∧ (∀ i, i < zs.length → w.cell? (x.add i) = some (.int k (zs.getD i 0))) ∧ ∀ n ∈ zs, (Lit.int k n).wf = true


set_option maxRecDepth 100000 in
set_option maxHeartbeats 4000000 in
theorem walk (a0 : Option Addr) (len0 cap0 : Nat) (z0 : List Int) (w : World) (w0 : IsRow .u8 w a0 len0 cap0 z0) :
    Calls Try.prog 3 #[.slice a0 len0 cap0] w fun e w' => e = .returned (.bool true) ∧ Below w.heap.size w w' := by
  obtain ⟨l, rfl, hA, hl, hlc, hcap⟩ := row_bs w0
  clear w0
  by_cases hbig : (1048576 : Int) < (l.length : Int)
  · have hd : decide ((1048576 : Int) < (l.length : Int)) = true := by simpa using hbig
    clear hbig
    go_enter Try.func3, Try.ntmps3
    go_wp2_with (go_at_call 9; refine (big8_any _ _ _ _).mono ?_; rintro e w' ⟨rfl, rfl⟩)
    go_ret
    exact ⟨rfl, Below.refl _ _⟩
  · have hlen : (l.length : Int) ≤ 1048576 := by omega
    have hd : decide ((1048576 : Int) < (l.length : Int)) = false := by simpa using hlen
    clear hbig
    have HA := hidH hA
    go_enter Try.func3, Try.ntmps3
    go_wp2_with (go_at_call 9; refine (big8_any _ _ _ _).mono ?_; rintro e w' ⟨rfl, rfl⟩)
    refine (drawCt_any _ _ _ _ hA hl hlen).mono ?_
    rintro e w1 ⟨y, X, cx, s, t, q, rfl, ⟨hys, hyl, hyb⟩, ⟨hs, ht, hq⟩, hX, b1⟩
    have hra : RdA w1 y.vs [.int .i64 y.Stream, .bool y.Unordered, .slice X y.Bytes.length cx] := RdA.int_mk (RdA.bool_mk (RdA.any_mk hX.rd RdA.nil_mk))
    have hwf : WfV.WfA y.vs := ⟨by unfold WfV; omega, trivial, hyb, trivial⟩
    have htot : tot.totL y.vs ≤ 1048576 := by simp only [MessageM.vs, tot.totL, tot]; omega
    have hws : WfV (.int s) := by unfold WfV; omega
    have hwt : WfV (.int t) := by unfold WfV; omega
    have hwq : WfV (.int q) := by unfold WfV; omega
    have C2 := Blk.new w1 25 #[.int .i64 y.Stream, .bool y.Unordered, .slice X y.Bytes.length cx]
    have B2 := bal (Below.refl w1.heap.size w1) (.cells #[.int .i64 y.Stream, .bool y.Unordered, .slice X y.Bytes.length cx] 25)
    have hra2 := RdA.below B2 hra
    have HB2 := hidH (b1.trans (B2.mono b1.size))
    obtain ⟨w2, hw2⟩ : ∃ w2, w1.alloc (.cells #[.int .i64 y.Stream, .bool y.Unordered, .slice X y.Bytes.length cx] 25) = w2 := ⟨_, rfl⟩
    rw [hw2] at C2 hra2 HB2
    have HW2 := hidH hw2
    have HCT := hidH (ct_impl y _ s t q w2 hra2 hwf htot hws hwt hwq)
    have HRA := hidH (fun (u : World) (h : Below w2.heap.size w2 u) => RdA.below h hra2)
    have HWF := hidH (And.intro hwf (And.intro htot (And.intro hws (And.intro hwt hwq))))
    have HY := hidH (And.intro hys (And.intro hyl hyb))
    have HC2 := hidH C2
    have HLL := hidH (And.intro hl hlen)
    have m0 := C2.cell 0
    have m1 := C2.cell 1
    have m2 := C2.cell 2
    simp only [List.getElem?_toArray, List.getElem?_cons_succ, List.getElem?_cons_zero] at m0 m1 m2
    have hm3 := C2.lt
    obtain ⟨C, hC⟩ : ∃ C, cutF y s t q = C := ⟨_, rfl⟩
    have hcr : (cutR y s t q).Code = C := by
      rw [← hC]; unfold cutR; split
      · next h => exact h.symm
      · rfl
    obtain ⟨R1, hR1⟩ : ∃ R1, cutR y s t q = R1 := ⟨_, rfl⟩
    rw [hR1] at HCT hcr
    have HC := hidH hC
    have HR1 := hidH hR1
    have hqb : -1 ≤ t := ht.1
    have HTQ := hidH (And.intro hs (And.intro ht hq))
    clear hra hra2 hwf htot hws hwt hwq hX b1 B2 hw2 C2 hC hR1 hys hyl hyb hA hl hlc hcap hs ht hq hqb
    go_wp2_with fail
    rw [HW2.out]
    refine HCT.out.mono ?_
    rintro e w3 ⟨vs, rfl, O3, b3⟩
    obtain ⟨A3, c3, rfl⟩ := shape_DatasResult O3.rd
    rw [hcr] at O3 ⊢
    have C4 := Blk.new w3 30 #[.int .i64 C, .slice A3 R1.Datas.length c3]
    have B4 := bal (Below.refl w3.heap.size w3) (.cells #[.int .i64 C, .slice A3 R1.Datas.length c3] 30)
    have HB4 := hidH (btr b3 B4)
    have HO4 := hidH (O3.below B4)
    obtain ⟨w4, hw4⟩ : ∃ w4, w3.alloc (.cells #[.int .i64 C, .slice A3 R1.Datas.length c3] 30) = w4 := ⟨_, rfl⟩
    rw [hw4] at C4 HB4 HO4
    have HW4 := hidH hw4
    have HC4 := hidH C4
    have HDJ := hidH (drawJp_any _ l cap0 w4 (bs_below HA.out (HB2.out.trans (HB4.out.mono HB2.out.size))) HLL.out.1 HLL.out.2)
    clear O3 b3 B4 hw4 C4 HCT m0 m1 m2 hm3 hcr HA
    go_wp2_with fail
    rw [HW4.out]
    refine HDJ.out.mono ?_
    rintro e w5 ⟨v8, r, rfl, hrl, hrp, hrd, b5⟩
    have hwr : WfV (st_Data r) := daP_wf hrp
    have htr : tot (st_Data r) ≤ 1048576 := by
      have := daP_tot hrp
      show r.length + tot.totL (r.flatMap DataM.vs) ≤ 1048576
      omega
    have HJI := hidH (jn_impl r v8 w5 hrd hwr htr)
    have HRD := hidH (And.intro hrd (And.intro hwr htr))
    have HB5 := hidH (btr HB4.out b5)
    have HC5 := hidH (HC4.out.below b5)
    have HO5 := hidH (HO4.out.below b5)
    obtain ⟨Jr, hJr⟩ : ∃ Jr, jnR r = Jr := ⟨_, rfl⟩
    rw [hJr] at HJI
    have HJR := hidH hJr
    clear hrl hrp hrd hwr htr b5 HC4 HO4 HW4 HDJ hJr
    go_wp2_with fail
    refine HJI.out.mono ?_
    rintro e w6 ⟨vs, rfl, O6, b6⟩
    obtain ⟨A6, c6, rfl⟩ := shape_MessageResult O6.rd
    have C7 := Blk.new w6 34 #[.int .i64 Jr.Code, .int .i64 Jr.Message_Stream, .bool Jr.Message_Unordered, .slice A6 Jr.Message_Bytes.length c6]
    have B7 := bal (Below.refl w6.heap.size w6) (.cells #[.int .i64 Jr.Code, .int .i64 Jr.Message_Stream, .bool Jr.Message_Unordered, .slice A6 Jr.Message_Bytes.length c6] 34)
    have HB7 := hidH (btr (btr HB5.out b6) B7)
    have HC7 := hidH ((HC5.out.below b6).below B7)
    have HO7 := hidH ((HO5.out.below b6).below B7)
    have HRD7 := hidH (Rd.below (btr b6 B7) _ HRD.out.1)
    obtain ⟨w7, hw7⟩ : ∃ w7, w6.alloc (.cells #[.int .i64 Jr.Code, .int .i64 Jr.Message_Stream, .bool Jr.Message_Unordered, .slice A6 Jr.Message_Bytes.length c6] 34) = w7 := ⟨_, rfl⟩
    rw [hw7] at C7 HB7 HC7 HO7 HRD7
    have HW7 := hidH hw7
    have HM7 := hidH (HC2.out.below HB7.out)
    clear O6 b6 B7 hw7 HC5 HO5 HB5 HJI
    have m0 := HM7.out.cell 0
    have m1 := HM7.out.cell 1
    have m2 := HM7.out.cell 2
    have r7 := HC7.out.cell 0
    have r71 := HC7.out.cell 1
    have r9 := C7.cell 0
    simp only [List.getElem?_toArray, List.getElem?_cons_succ, List.getElem?_cons_zero] at m0 m1 m2 r7 r71 r9
    have g3 := HM7.out.lt
    have g7 := HC7.out.lt
    have g9 := C7.lt
    obtain ⟨F, hF⟩ : ∃ F, msF y = F := ⟨_, rfl⟩
    have HP1 := hidH (fun (u : World) (h : Below w7.heap.size w7 u) => show Calls Try.prog 14 #[.agg #[.int .i64 y.Stream, .bool y.Unordered, .slice X y.Bytes.length cx], .int .i64 s, .int .i64 t, .int .i64 q] u (fun e w' => ∃ (A1 : Option Addr) (n1 c1 : Nat), e = .returned (.agg #[.int .i64 C, .slice A1 n1 c1]) ∧ Below u.heap.size u w') from
      (ct_spec y _ s t q u (HRA.out u (btr HB7.out h)) HWF.out.1 HWF.out.2.1 HWF.out.2.2.1 HWF.out.2.2.2.1 HWF.out.2.2.2.2).mono (fun e w' hh => by
        obtain ⟨vs, rfl, O, b⟩ := hh
        rw [HR1.out] at O
        obtain ⟨A1, c1, rfl⟩ := shape_DatasResult O.rd
        have hcr : R1.Code = C := by
          rw [← HR1.out, ← HC.out]; unfold cutR; split
          · next h => exact h.symm
          · rfl
        rw [hcr]
        exact ⟨A1, _, c1, rfl, b⟩))
    have HP2 := hidH (fun (u : World) (h : Below w7.heap.size w7 u) => show Calls Try.prog 15 #[v8] u (fun e w' => ∃ (z1 : Int) (z2 : Bool) (A1 : Option Addr) (n1 c1 : Nat), e = .returned (.agg #[.int .i64 Jr.Code, .int .i64 z1, .bool z2, .slice A1 n1 c1]) ∧ Below u.heap.size u w') from
      (jn_spec r v8 u (Rd.below h _ HRD7.out) HRD.out.2.1 HRD.out.2.2).mono (fun e w' hh => by
        obtain ⟨vs, rfl, O, b⟩ := hh
        rw [HJR.out] at O
        obtain ⟨A1, c1, rfl⟩ := shape_MessageResult O.rd
        exact ⟨_, _, A1, _, c1, rfl, b⟩))
    have HP3 := hidH (fun (u : World) (h : Below w7.heap.size w7 u) => show Calls Try.prog 16 #[.agg #[.int .i64 y.Stream, .bool y.Unordered, .slice X y.Bytes.length cx]] u (fun e w' => e = .returned (.int .i64 F) ∧ Below u.heap.size u w') from by rw [← hF]; exact msFw_impl y _ u (HRA.out u (btr HB7.out h)))
    have HP4 := hidH (fun (u : World) (h : Below w7.heap.size w7 u) => show Calls Try.prog 17 #[.agg #[.int .i64 y.Stream, .bool y.Unordered, .slice X y.Bytes.length cx]] u (fun e w' => e = .returned (.int .i64 F) ∧ Below u.heap.size u w') from by rw [← hF]; exact msFw_spec y _ u (HRA.out u (btr HB7.out h)))
    have HBW := hidH (HB2.out.trans (HB7.out.mono HB2.out.size))
    clear hF C7
    go_wp2_with fail
    rw [HW7.out]
    clear HW7
    refine wp_region_any (by kernel_rfl) ?_
    refine regFu7 _ _ _ _ _ _ _ _ _ _ _ _ _ _ _ _ _ _ _ _ _ _ v8 w7 w1.heap.size w3.heap.size w6.heap.size y.Bytes.length cx y.Stream s t q C Jr.Code F y.Unordered X g3 g7 g9 m0 m1 m2 r7 r9 HP1.out HP2.out HP3.out HP4.out (by kernel_rfl) (by kernel_rfl) (by kernel_rfl) rfl (Below.refl _ _).drew ?_
    intros
    rename_i w8 b8
    have HB8 := hidH b8
    have m0 := (b8.cell (p := ⟨w1.heap.size, 0, none⟩) g3).trans m0
    have m1 := (b8.cell (p := ⟨w1.heap.size, 1, none⟩) g3).trans m1
    have m2 := (b8.cell (p := ⟨w1.heap.size, 2, none⟩) g3).trans m2
    have r7 := (b8.cell (p := ⟨w3.heap.size, 0, none⟩) g7).trans r7
    have r71 := (b8.cell (p := ⟨w3.heap.size, 1, none⟩) g7).trans r71
    have HO8 := hidH (HO7.out.below b8)
    have HK8 := hidH (HBW.out.trans (b8.mono HBW.out.size))
    clear b8 HP1 HP2 HP3 HP4 HO7 HC7 r9 g9
    by_cases hz : C = 0
    case neg =>
      have hz2 : (C != 0) = true := by rw [bne_iff_ne]; exact hz
      clear hz
      go_wp2
      go_ret
      exact ⟨rfl, HK8.out⟩
    have hz2 : (C != 0) = false := by rw [bne_eq_false_iff_eq]; exact hz
    subst hz
    obtain ⟨hms, hs4, ht4, hq4, hu4⟩ := cutF_zero HC.out
    obtain ⟨sn, rfl⟩ : ∃ n : Nat, s = (n : Int) := ⟨s.toNat, by omega⟩
    obtain ⟨_, hb1, hb2⟩ := msF_zero hms
    obtain ⟨r1, hr1⟩ : ∃ r1, R1.Datas = r1 := ⟨_, rfl⟩
    have hrc : r1 = cutL y sn t q := by rw [← hr1, ← HR1.out, cutR_ok HC.out, Int.toNat_natCast]
    have hrd1 : Rd w8 (st_Data r1) (.slice A3 r1.length c3) := by
      have h1 : RdA w8 [.int R1.Code, st_Data R1.Datas] [.int .i64 0, .slice A3 R1.Datas.length c3] := HO8.out.rd
      rw [hr1] at h1
      exact h1.tl.hd
    rw [hr1] at r71
    have hs0 : 0 < sn := by omega
    have hn1 : 1 ≤ r1.length := by rw [hrc]; exact cut_ne hs0 hb1
    have hn2 : r1.length ≤ 100 := by rw [hrc, cutL_len]; exact cutN_le (by omega) hb2
    obtain ⟨k, hk⟩ : ∃ k, r1.length = k + 1 := ⟨r1.length - 1, by omega⟩
    obtain ⟨ga, oa, c', e, hga, E0⟩ := el_Data hrd1 (j := 0) (by omega)
    injection e with e1 e2 e3
    subst e1 e3
    obtain ⟨ga2, oa2, c'', e, _, E1⟩ := el_Data hrd1 (j := k) (by omega)
    injection e with e1 e2 e3
    injection e1 with e1
    injection e1 with e1 e4
    subst e1 e4 e3
    obtain ⟨z0', z1', d0, z2', z3', d3, z4', z5', z6', z7'⟩ := mem_Data E0
    obtain ⟨u0', u1', u2', u3', u4', u5', d4, u6', u7', u8'⟩ := mem_Data E1
    have hg0 : r1[0] = cutAt y sn t q 0 := by rw [← getD_at9 (by omega), hrc]; exact cut_get (by rw [← hrc]; omega)
    have hg1 : r1[k] = cutAt y sn t q k := by rw [← getD_at9 (by omega), hrc]; exact cut_get (by rw [← hrc]; omega)
    have ht0 : (cutAt y sn t q 0).Tsn = t := by show (t + ((0 : Nat) : Int)) % 4294967296 = t; omega
    have hf0 : (cutAt y sn t q 0).First = true := by simp [cutAt]
    have hl0 : (cutAt y sn t q k).Last = true := by rw [cut_last hs0 (by rw [← hrc]; omega), ← hrc, hk]; simp
    rw [Nat.zero_mul, Nat.add_zero, hg0, ht0] at d0
    rw [Nat.zero_mul, Nat.add_zero, hg0, hf0] at d3
    rw [hg1, hl0] at d4
    have hquo := quo_cut (K := y.Bytes.length) (s := sn) (by omega)
    have hrn : cutN y.Bytes.length sn = k + 1 := by rw [← hk, hrc, cutL_len]
    rw [hrn] at hquo
    have hqa : ((y.Bytes.length : Int) + (sn : Int) - 1) / (sn : Int) = (k : Int) + 1 := by have := hquo.1; omega
    have hqt : ((y.Bytes.length : Int) + (sn : Int) - 1).tdiv (sn : Int) = (k : Int) + 1 := by have := hquo.2; omega
    have hkb : (y.Bytes.length : Int) ≤ 400 := by omega
    have hkb0 : (1 : Int) ≤ (y.Bytes.length : Int) := by omega
    have hsn0 : (4 : Int) ≤ (sn : Int) := by omega
    have hsn1 : (sn : Int) ≤ 100 := by omega
    have hk0 : (0 : Int) ≤ (k : Int) := by omega
    have hk1 : (0 : Int) < (k : Int) + 1 := by omega
    have hk2 : (k : Int) < (k : Int) + 1 := by omega
    have hk3 : (k : Int) ≤ 100 := by omega
    have hwf1 : WfV (st_Data r1) := by
      show WfV.WfA (r1.flatMap DataM.vs)
      rw [hrc]; exact wf_pd8 (cut_pd HC.out) (cut_bytes HY.out.2.2)
    have htt1 : tot (st_Data r1) ≤ 1048576 := by
      have := tot_pd8 (cut_pd HC.out)
      rw [← hrc] at this
      show r1.length + tot.totL (r1.flatMap DataM.vs) ≤ 1048576
      omega
    have HJ1 := hidH (jn_impl r1 _ w8 hrd1 hwf1 htt1)
    have hjr : jnR r1 = ⟨0, y.Stream, y.Unordered, y.Bytes⟩ := by rw [hrc]; exact cut_join HC.out
    obtain ⟨Z, hZ⟩ : ∃ Z, jnR r1 = Z := ⟨_, rfl⟩
    have hz0 : Z.Code = 0 := by rw [← hZ, hjr]
    have hz1 : Z.Message_Stream = y.Stream := by rw [← hZ, hjr]
    have hz3 : Z.Message_Unordered = y.Unordered := by rw [← hZ, hjr]
    have hz4 : Z.Message_Bytes = y.Bytes := by rw [← hZ, hjr]
    rw [hZ] at HJ1
    have HZ := hidH (And.intro hz0 (And.intro hz1 (And.intro hz3 hz4)))
    have HRT := hidH (fun (h2 : 2 ≤ r1.length) => show jnR (r1.drop 1) = ⟨1, 0, false, []⟩ by rw [hrc] at h2 ⊢; exact cut_rest HC.out h2)
    have HD1 := hidH (And.intro hrd1 (And.intro hwf1 htt1))
    have HKK := hidH hk
    rw [hk] at r71
    rw [hk] at HJ1
    clear z2' z3' z4' z5' z6' z7' u2' u3' u4' u5' u6' u7' u8'
    clear hms hs4 ht4 hq4 hu4 hb1 hb2 hr1 hrc hrd1 hn1 hn2 E0 E1 hg0 hg1 ht0 hf0 hl0 hquo hrn hwf1 htt1 hjr hk HO8 hz0 hz1 hz3 hz4 hZ
    go_wp2_with fail
    refine HJ1.out.mono ?_
    rintro e w9 ⟨vs, rfl, O9, b9⟩
    obtain ⟨A9, c9, rfl⟩ := shape_MessageResult O9.rd
    have hrd9 : RdA w9 [.int Z.Code, .int Z.Message_Stream, .bool Z.Message_Unordered, .bs Z.Message_Bytes] [.int .i64 Z.Code, .int .i64 Z.Message_Stream, .bool Z.Message_Unordered, .slice A9 Z.Message_Bytes.length c9] := O9.rd
    rw [HZ.out.1, HZ.out.2.1, HZ.out.2.2.1, HZ.out.2.2.2] at hrd9 ⊢
    have hra9 : RdA w9 y.vs [.int .i64 y.Stream, .bool y.Unordered, .slice A9 y.Bytes.length c9] := hrd9.tl
    have C10 := Blk.new w9 34 #[.int .i64 0, .int .i64 y.Stream, .bool y.Unordered, .slice A9 y.Bytes.length c9]
    have B10 := bal (Below.refl w9.heap.size w9) (.cells #[.int .i64 0, .int .i64 y.Stream, .bool y.Unordered, .slice A9 y.Bytes.length c9] 34)
    have hb810 := btr b9 B10
    have hra10 := RdA.below B10 hra9
    obtain ⟨w10, hw10⟩ : ∃ w10, w9.alloc (.cells #[.int .i64 0, .int .i64 y.Stream, .bool y.Unordered, .slice A9 y.Bytes.length c9] 34) = w10 := ⟨_, rfl⟩
    have hw10' := hw10
    rw [hw10] at C10 hb810 hra10
    have HW10 := hidH hw10
    have HB10 := hidH (btr HB8.out hb810)
    have g8 : w1.heap.size < w8.heap.size := Nat.lt_of_lt_of_le g3 HB8.out.size
    have g87 : w3.heap.size < w8.heap.size := Nat.lt_of_lt_of_le g7 HB8.out.size
    have m0 := (b9.cell (p := ⟨w1.heap.size, 0, none⟩) g8).trans m0
    have m1 := (b9.cell (p := ⟨w1.heap.size, 1, none⟩) g8).trans m1
    have m2 := (b9.cell (p := ⟨w1.heap.size, 2, none⟩) g8).trans m2
    have r71 := (b9.cell (p := ⟨w3.heap.size, 1, none⟩) g87).trans r71
    have g91 : w1.heap.size < w9.heap.size := Nat.lt_of_lt_of_le g8 b9.size
    have g93 : w3.heap.size < w9.heap.size := Nat.lt_of_lt_of_le g87 b9.size
    have hs10 : w10.heap.size = w9.heap.size + 1 := by rw [← hw10']; exact World.size_alloc _ _
    have HB910 := hidH (show Below w9.heap.size w9 w10 from hw10' ▸ B10)
    have b0 := C10.cell 0
    have b1' := C10.cell 1
    have b2' := C10.cell 2
    have b3' := C10.cell 3
    simp only [List.getElem?_toArray, List.getElem?_cons_succ, List.getElem?_cons_zero] at b0 b1' b2' b3'
    have hgl10 := C10.lt
    have K1 := (Blk.new w10 25 #[.int .i64 y.Stream, .bool y.Unordered, .slice A9 y.Bytes.length c9]).alloc (.cells #[.int .i64 y.Stream, .bool y.Unordered, .slice X y.Bytes.length cx] 25)
    have K2 := Blk.new (w10.alloc (.cells #[.int .i64 y.Stream, .bool y.Unordered, .slice A9 y.Bytes.length c9] 25)) 25 #[.int .i64 y.Stream, .bool y.Unordered, .slice X y.Bytes.length cx]
    rw [World.size_alloc] at K2
    have BU := bal (bal (Below.refl w10.heap.size w10) (.cells #[.int .i64 y.Stream, .bool y.Unordered, .slice A9 y.Bytes.length c9] 25)) (.cells #[.int .i64 y.Stream, .bool y.Unordered, .slice X y.Bytes.length cx] 25)
    have hwm : WfV (st_Message [y]) := by
      show WfV.WfA ([y].flatMap MessageM.vs)
      have e : [y].flatMap MessageM.vs = y.vs := by simp
      rw [e]; exact HWF.out.1
    have htm : tot (st_Message [y]) ≤ 1048576 := by
      show 1 + tot.totL ([y].flatMap MessageM.vs) ≤ 1048576
      have e : [y].flatMap MessageM.vs = y.vs := by simp
      rw [e]
      have := HY.out.2.1
      simp only [MessageM.vs, tot.totL, tot]; omega
    have hsm := (sms_impl [y] _ [y] _ _ (rd_one (RdA.below BU hra10) K1) hwm htm (rd_one (HRA.out _ (btr (btr HB7.out HB10.out) BU)) K2) hwm htm)
    rw [hs10] at hsm
    have HSM := hidH hsm
    have HKU := hidH (HK8.out.trans ((btr hb810 BU).mono HK8.out.size))
    have HBU := hidH (btr hb810 BU)
    have BU0 := hidH BU
    clear b0 b1' b2' b3' hgl10 hsm hs10 hw10'
    clear O9 b9 hrd9 hra9 C10 B10 hra10 hw10 HJ1 K1 K2 hwm htm hb810 d0 d3 d4 g8 g87 BU
    go_wp2_with fail
    rw [HW10.out]
    try go_wp2_with fail
    refine HSM.out.mono ?_
    rintro e w11 ⟨rfl, b11⟩
    have hsg : sameG [y] [y] = true := by simp [sameG]
    rw [hsg]
    have HK11 := hidH (HKU.out.trans (b11.mono HKU.out.size))
    have HB11 := hidH (btr HBU.out b11)
    have g9x := World.block_lt_of_cell? _ _ r71
    have g9w : w3.heap.size < w9.heap.size := g9x
    have r71 := ((btr (btr HB910.out (BU0.out)) b11).cell (p := ⟨w3.heap.size, 1, none⟩) g9w).trans r71
    clear b11 hsg m0 m1 m2
    by_cases hk00 : k = 0
    · subst hk00
      go_wp2
      go_ret
      exact ⟨rfl, HK11.out⟩
    · have hke : ((k : Int) + 1 == 1) = false := by rw [beq_eq_false_iff_ne]; omega
      have hsl := cutD_l (some ⟨ga, oa, none⟩) (k + 1) c3 1 1 rfl (by omega) w11
      have hrdx := cutD_rd (i := 1) (Rd.below HB11.out _ HD1.out.1) (by have := HKK.out; omega)
      have HJ2 := hidH (jn_impl (r1.drop 1) _ w11 hrdx (wfD_drop HD1.out.2.1 1) (Nat.le_trans (totD_drop r1 1) HD1.out.2.2))
      have hj2 := HRT.out (by have := HKK.out; omega)
      rw [HKK.out] at HJ2
      obtain ⟨Z2, hZ2⟩ : ∃ Z2, jnR (r1.drop 1) = Z2 := ⟨_, rfl⟩
      have hzc : Z2.Code = 1 := by rw [← hZ2, hj2]
      rw [hZ2] at HJ2
      have HZC := hidH hzc
      have hc1 : (1 : Int) ≤ (k : Int) + 1 := by omega
      clear hrdx hj2 hZ2 hzc hk00
      go_wp2_with fail
      refine HJ2.out.mono ?_
      rintro e w12 ⟨vs, rfl, O12, b12⟩
      obtain ⟨A12, c12, rfl⟩ := shape_MessageResult O12.rd
      rw [HZC.out]
      have HK12 := hidH (HK11.out.trans (b12.mono HK11.out.size))
      have f8 := fldMR8
      clear O12 b12 HJ2
      go_wp2
      go_ret
      exact ⟨rfl, HK12.out⟩

/-! ### THE ROW's STEP: WRITTEN OUT: LEAVE IT -/
set_option maxRecDepth 100000 in
theorem lifted (os : Os) (started : os.Started) (H : Type) (enc : TypeId × Value → H) :
    ReturnsInHanded {} Try.checked os 3 .any (Rows.fnCutsSpec.pre6 enc Try.prog Try.f3 Rows.fnCutsRow.domain false) (Rows.fnCutsSpec.post enc Try.prog Try.f3 false true false false) := by
  refine returnsInHanded_of_change (C := Try.checked) own started (by kernel_rfl) Try.func3
    (ChangeSpec.witness6 (enc := enc) (C := Try.checked) false ⟨#[], #[.slice none 0 0], []⟩ 8 (by kernel_rfl) (by kernel_rfl) (by kernel_rfl) (by kernel_rfl)) ?_
  intro W base args ds gs before hval0 hW hcnd _
  have hval : ∀ (j : Nat) t v, Try.f3.params[j]? = some t → args[j]? = some v → Value.okWide Try.prog W .any base t v := hval0
  have hW' := hW
  obtain ⟨p, q, hA0, hV, rfl, hfz, hnd⟩ := hW
  have hA : DataW.TrodAll enc Try.prog W 0 (fun _ => true) true Try.f3.params.toList args.toList ds p := hA0
  rw [Try.params3] at hA hval
  obtain ⟨v0, vs0, d0, ds0, p0, q0, hargs, rfl, rfl, h0, r0⟩ := trodAll_cons hA
  obtain ⟨rfl, rfl, rfl⟩ := trodAll_nil r0
  obtain rfl : args = #[v0] := by cases args; simp_all
  obtain ⟨rfl, rfl⟩ := trodVars_none hV
  obtain ⟨a0, len0, cap0, rfl⟩ := okWide_slice Try.underlying22 (hval 0 22 v0 rfl rfl)
  have k0 := h0
  have lt0 : ∀ x ∈ p0, x.block < W.heap.size := by obtain ⟨m, hm⟩ := k0; exact DataW.trod_lt m _ _ _ hm
  obtain ⟨z0, w0⟩ : ∃ zs, IsRow .u8 W a0 len0 cap0 zs := by
    obtain ⟨fuel, hf⟩ := h0
    rcases open_ints Try.underlying22 Try.underlying5 (by kernel_rfl) hf with ⟨hcs, _⟩ | ⟨x, l, c, zs, hcs, _, hl, hm, hz, _, hcell, hwz⟩
    · simp [Value.cells] at hcs
      obtain ⟨rfl, rfl, rfl⟩ := hcs
      exact ⟨[], .inl ⟨rfl, rfl, rfl, rfl⟩⟩
    · simp [Value.cells] at hcs
      obtain ⟨rfl, rfl, rfl⟩ := hcs
      exact ⟨zs, .inr ⟨_, rfl, hl, hm, by simpa using hz, hcell, hwz⟩⟩
  clear hA0 hval0
  refine (walk a0 len0 cap0 z0 W w0).mono fun e W' ⟨he, bel⟩ => ?_
  subst he
  exact ⟨_, rfl, _, _, _, [], _, [], hW', trodAll_mk1 (shut_bool Try.underlying4 _), (trodAll_cons_mk (Below.trod laidOut (by kernel_rfl) (of_decide_eq_true (by kernel_rfl)) k0 bel lt0) trodAll_mk0), rfl, bel.frame _, fun h => by cases h⟩

theorem over : Rows.fnCutsRow.holds Try.pinned (OpenSpec.ofChange Rows.fnCutsSpec) :=
  OpenClaim.holds_of_wide 3 Try.f3 rfl rfl rfl rfl rfl rfl rfl ⟨rfl, rfl, rfl, rfl, rfl⟩ rfl rfl rfl rfl rfl (by kernel_rfl) Try.func3 (by kernel_rfl)
    (of_decide_eq_true (by kernel_rfl)) (by unfold Func.isWrapper; first | (rw [if_pos (by decide +kernel)]; kernel_rfl) | (rw [if_neg (by decide +kernel)]; exact ⟨rfl, rfl⟩))
    (fun os started H enc _ => lifted os started H enc)

/-- ████ THE STATEMENT ████ -/
theorem proved : Rows.FnCutsSaid := over
#print axioms proved
end Go.Proofs.Ytbfbfimmhpijfaa.fnCuts
