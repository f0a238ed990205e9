/- Chapter 10: the program's TakeSack itself. (WRITTEN BY tools/sack10m.py) -/
import Derived.Test.YthljdikcpdokdaaNb5
namespace Go.Proofs.Ythljdikcpdokdaa
open Go.RowKit Go.Deep

set_option maxRecDepth 100000 in
set_option maxHeartbeats 8000000 in
theorem tsw_impl (y : SendM) (vs : List Value) (k : SackM) (vk : List Value) (u : World) (h : RdA u y.vs vs) (h1 : RdA u k.vs vk) : Calls Try.prog 20 #[.agg vs.toArray, .agg vk.toArray] u (Res u (tsR y k).vs) := by
  obtain ⟨A2, c2, A3, c3, rfl, i2, i3, m2, m3, _⟩ := send_sh h
  obtain ⟨A, c, rfl, hG⟩ := sack_sh h1
  have KS := ((Blk.new u 47 #[.int .i64 y.Next, .int .i64 y.Acked, .slice A2 y.Seqs.length c2, .slice A3 y.Items.length c3]).alloc (.cells #[.int .i64 k.Cum, .slice A k.Gaps.length c] 31)).alloc (.cells #[.int .i64 0, .int .i64 0, .int .i64 0, .slice none 0 0, .slice none 0 0, .slice none 0 0, .bool false] 51)
  have KK := (Blk.new (u.alloc (.cells #[.int .i64 y.Next, .int .i64 y.Acked, .slice A2 y.Seqs.length c2, .slice A3 y.Items.length c3] 47)) 31 #[.int .i64 k.Cum, .slice A k.Gaps.length c]).alloc (.cells #[.int .i64 0, .int .i64 0, .int .i64 0, .slice none 0 0, .slice none 0 0, .slice none 0 0, .bool false] 51)
  have KR := Blk.new ((u.alloc (.cells #[.int .i64 y.Next, .int .i64 y.Acked, .slice A2 y.Seqs.length c2, .slice A3 y.Items.length c3] 47)).alloc (.cells #[.int .i64 k.Cum, .slice A k.Gaps.length c] 31)) 51 #[.int .i64 0, .int .i64 0, .int .i64 0, .slice none 0 0, .slice none 0 0, .slice none 0 0, .bool false]
  have B1 := bal (bal (bal (Below.refl u.heap.size u) (.cells #[.int .i64 y.Next, .int .i64 y.Acked, .slice A2 y.Seqs.length c2, .slice A3 y.Items.length c3] 47)) (.cells #[.int .i64 k.Cum, .slice A k.Gaps.length c] 31)) (.cells #[.int .i64 0, .int .i64 0, .int .i64 0, .slice none 0 0, .slice none 0 0, .slice none 0 0, .bool false] 51)
  rw [World.size_alloc] at KK
  rw [World.size_alloc, World.size_alloc] at KR
  have s1 : (((u.alloc (.cells #[.int .i64 y.Next, .int .i64 y.Acked, .slice A2 y.Seqs.length c2, .slice A3 y.Items.length c3] 47)).alloc (.cells #[.int .i64 k.Cum, .slice A k.Gaps.length c] 31)).alloc (.cells #[.int .i64 0, .int .i64 0, .int .i64 0, .slice none 0 0, .slice none 0 0, .slice none 0 0, .bool false] 51)).heap.size = u.heap.size + 1 + 1 + 1 := by simp only [World.size_alloc]
  obtain ⟨w1, hw1⟩ : ∃ W, ((u.alloc (.cells #[.int .i64 y.Next, .int .i64 y.Acked, .slice A2 y.Seqs.length c2, .slice A3 y.Items.length c3] 47)).alloc (.cells #[.int .i64 k.Cum, .slice A k.Gaps.length c] 31)).alloc (.cells #[.int .i64 0, .int .i64 0, .int .i64 0, .slice none 0 0, .slice none 0 0, .slice none 0 0, .bool false] 51) = W := ⟨_, rfl⟩
  rw [hw1] at KS KK KR B1 s1
  have HSF := hidH (sdw_impl y _ w1 (RdA.below B1 h))
  have HI2 := hidH (fun (W : World) (hW : Below u.heap.size u W) => is_below i2 hW)
  have HI3 := hidH (fun (W : World) (hW : Below u.heap.size u W) => Rd.below hW _ i3)
  have HGP := hidH (fun (W : World) (hW : Below u.heap.size u W) => Rd.below hW _ hG)
  have HRD := hidH (fun (W : World) (hW : Below u.heap.size u W) => RdA.below hW h)
  have H1 := hidH hw1
  have HS := hidH KS
  have HK := hidH KK
  have HR := hidH KR
  have HB := hidH B1
  have HZ := hidH s1
  have HV1 := hidH (@tsv_sd y k)
  have HV2 := hidH (@tsv_ks y k)
  have HV3 := hidH (@tsv_st y k)
  have HV4 := hidH (@tsv_old y k)
  have HV5 := hidH (@tsv_ok y k)
  have HOK := hidH (@SdOk.of y)
  obtain ⟨f, hf⟩ : ∃ f, sdF y = f := ⟨_, rfl⟩
  rw [hf] at HSF HV1 HV2 HV3 HV4 HV5 HOK
  clear h h1 i2 i3 hG m2 m3 hw1 KS KK KR B1 s1 hf
  go_enter Try.func20, Try.ntmps20
  go_wp2_with fail
  rw [H1.out]
  refine HSF.out.mono ?_
  rintro e w2 ⟨rfl, b2⟩
  replace HS := hidH (HS.out.below b2)
  replace HK := hidH (HK.out.below b2)
  replace HR := hidH (HR.out.below b2)
  replace HZ := hidH (show u.heap.size + 1 + 1 + 1 ≤ w2.heap.size by have := HZ.out; have := b2.size; omega)
  replace HB := hidH (btr HB.out b2)
  clear b2 HSF H1
  by_cases hz : f = 0
  case neg =>
    have hz2 : (f != 0) = true := by rw [bne_iff_ne]; exact hz
    have HE := hidH (HV1.out hz)
    clear hz HV1 HV2 HV3 HV4 HV5 HOK
    have R9 := HR.out
    have q0 := R9.cell 0
    have z0 := R9.frozen 0
    have q1 := R9.cell 1
    have z1 := R9.frozen 1
    have q2 := R9.cell 2
    have z2 := R9.frozen 2
    have q3 := R9.cell 3
    have z3 := R9.frozen 3
    have q4 := R9.cell 4
    have z4 := R9.frozen 4
    have q5 := R9.cell 5
    have z5 := R9.frozen 5
    have q6 := R9.cell 6
    have z6 := R9.frozen 6
    simp only [List.getElem?_toArray, List.getElem?_cons_succ, List.getElem?_cons_zero] at q0 q1 q2 q3 q4 q5 q6
    have lq := R9.lt
    have HOWN := hidH (show OwN (u.heap.size + 1 + 1 + 1) w2.heap.size w2 _ _ from sr_none10 f (Nat.le_refl _))
    clear R9
    go_wp2
    have WN := ((((((set_win w2 (u.heap.size + 1 + 1) 0 (.int .i64 f)).trans (set_win _ (u.heap.size + 1 + 1) 1 (.int .i64 0))).trans (set_win _ (u.heap.size + 1 + 1) 2 (.int .i64 0))).trans (set_win _ (u.heap.size + 1 + 1) 3 (.slice none 0 0))).trans (set_win _ (u.heap.size + 1 + 1) 4 (.slice none 0 0))).trans (set_win _ (u.heap.size + 1 + 1) 5 (.slice none 0 0))).trans (set_win _ (u.heap.size + 1 + 1) 6 (.bool false))
    have sz9 : u.heap.size ≤ w2.heap.size := HB.out.size
    exact bodyPost_ret (v := .agg #[.int .i64 f, .int .i64 0, .int .i64 0, .slice none 0 0, .slice none 0 0, .slice none 0 0, .bool false]) (by simp [results, Try.results20, go_sem, q0, q1, q2, q3, q4, q5, q6]) rfl ⟨_, rfl, by rw [HE.out]; exact (HOWN.out.win WN (.inr (Nat.le_refl _))).mono (by omega) WN.size (Nat.le_refl _), (HB.out).trans (WN.below (by omega) |>.mono (by omega))⟩
  subst hz
  have hy := HOK.out rfl
  replace HV2 := hidH (HV2.out rfl)
  replace HV3 := hidH (HV3.out rfl)
  replace HV4 := hidH (HV4.out rfl)
  replace HV5 := hidH (HV5.out rfl)
  have HSK := hidH (ksF_impl k _ w2 (rd_sack (HGP.out w2 HB.out)))
  have HY := hidH hy
  have HK0 := hidH (fun (h : ksF k = 0) => h)
  obtain ⟨f2, hf2⟩ : ∃ f2, ksF k = f2 := ⟨_, rfl⟩
  have HF2 := hidH hf2
  rw [hf2] at HSK HV2 HV3 HV4 HV5
  clear HV1 HOK hf2 hy HK0
  have k0 := HK.out.cell 0
  have k1 := HK.out.cell 1
  simp only [List.getElem?_toArray, List.getElem?_cons_succ, List.getElem?_cons_zero] at k0 k1
  have kl := HK.out.lt
  go_wp2_with fail
  clear k0 k1 kl
  refine HSK.out.mono ?_
  rintro e w3 ⟨rfl, b3⟩
  replace HS := hidH (HS.out.below b3)
  replace HK := hidH (HK.out.below b3)
  replace HR := hidH (HR.out.below b3)
  replace HZ := hidH (Nat.le_trans HZ.out b3.size)
  replace HB := hidH (btr HB.out b3)
  clear b3 HSK
  by_cases hz : f2 = 0
  case neg =>
    have hz2 : (f2 != 0) = true := by rw [bne_iff_ne]; exact hz
    have HE := hidH (HV2.out hz)
    clear hz HV2 HV3 HV4 HV5
    have R9 := HR.out
    have q0 := R9.cell 0
    have z0 := R9.frozen 0
    have q1 := R9.cell 1
    have z1 := R9.frozen 1
    have q2 := R9.cell 2
    have z2 := R9.frozen 2
    have q3 := R9.cell 3
    have z3 := R9.frozen 3
    have q4 := R9.cell 4
    have z4 := R9.frozen 4
    have q5 := R9.cell 5
    have z5 := R9.frozen 5
    have q6 := R9.cell 6
    have z6 := R9.frozen 6
    simp only [List.getElem?_toArray, List.getElem?_cons_succ, List.getElem?_cons_zero] at q0 q1 q2 q3 q4 q5 q6
    have lq := R9.lt
    have HOWN := hidH (show OwN (u.heap.size + 1 + 1 + 1) w3.heap.size w3 _ _ from sr_none10 f2 (Nat.le_refl _))
    clear R9
    go_wp2
    have WN := ((((((set_win w3 (u.heap.size + 1 + 1) 0 (.int .i64 f2)).trans (set_win _ (u.heap.size + 1 + 1) 1 (.int .i64 0))).trans (set_win _ (u.heap.size + 1 + 1) 2 (.int .i64 0))).trans (set_win _ (u.heap.size + 1 + 1) 3 (.slice none 0 0))).trans (set_win _ (u.heap.size + 1 + 1) 4 (.slice none 0 0))).trans (set_win _ (u.heap.size + 1 + 1) 5 (.slice none 0 0))).trans (set_win _ (u.heap.size + 1 + 1) 6 (.bool false))
    have sz9 : u.heap.size ≤ w3.heap.size := HB.out.size
    exact bodyPost_ret (v := .agg #[.int .i64 f2, .int .i64 0, .int .i64 0, .slice none 0 0, .slice none 0 0, .slice none 0 0, .bool false]) (by simp [results, Try.results20, go_sem, q0, q1, q2, q3, q4, q5, q6]) rfl ⟨_, rfl, by rw [HE.out]; exact (HOWN.out.win WN (.inr (Nat.le_refl _))).mono (by omega) WN.size (Nat.le_refl _), (HB.out).trans (WN.below (by omega) |>.mono (by omega))⟩
  subst hz
  replace HV3 := hidH (HV3.out rfl)
  replace HV4 := hidH (HV4.out rfl)
  replace HV5 := hidH (HV5.out rfl)
  have HCP := hidH (copied_any y _ w3 (HRD.out w3 HB.out) HY.out.seqs (by have := HY.out.items; omega) HY.out.piece)
  clear HV2
  have s0 := HS.out.cell 0
  have s1 := HS.out.cell 1
  have s2 := HS.out.cell 2
  have s3 := HS.out.cell 3
  simp only [List.getElem?_toArray, List.getElem?_cons_succ, List.getElem?_cons_zero] at s0 s1 s2 s3
  have sl := HS.out.lt
  go_wp2_with fail
  clear s0 s1 s2 s3 sl
  refine HCP.out.mono ?_
  rintro e w4 ⟨S, I, ks, rfl, hS, hI, b4⟩
  replace HS := hidH (HS.out.below b4)
  replace HK := hidH (HK.out.below b4)
  replace HR := hidH (HR.out.below b4)
  replace HB := hidH (btr HB.out b4)
  obtain ⟨SA, sc, rfl⟩ := own_lenT hS
  obtain ⟨IA, ic, rfl⟩ := hI.shape
  have B5 := bal (Below.refl w4.heap.size w4) (.cells #[.int .i64 y.Next, .int .i64 y.Acked, .slice SA y.Seqs.length sc, .slice IA y.Items.length ic] 47)
  have K5 := Blk.new w4 47 #[.int .i64 y.Next, .int .i64 y.Acked, .slice SA y.Seqs.length sc, .slice IA y.Items.length ic]
  obtain ⟨w5, hw5⟩ : ∃ W, w4.alloc (.cells #[.int .i64 y.Next, .int .i64 y.Acked, .slice SA y.Seqs.length sc, .slice IA y.Items.length ic] 47) = W := ⟨_, rfl⟩
  have s5 : w5.heap.size = w4.heap.size + 1 := by rw [← hw5, World.size_alloc]
  rw [hw5] at B5 K5
  have hfr := gapV_rng y.Acked k.Cum
  have HDI := hidH (fun (t : Int) (W : World) => dist10_impl y.Next y.Acked (SA) (IA) y.Seqs.length y.Items.length sc ic t W)
  have HDC := hidH (HDI.out k.Cum w5)
  obtain ⟨fr, hfre⟩ : ∃ fr, gapV y.Acked k.Cum = fr := ⟨_, rfl⟩
  rw [hfre] at hfr HDC
  have HFR := hidH hfre
  replace HS := hidH (HS.out.below B5)
  replace HK := hidH (HK.out.below B5)
  replace HR := hidH (HR.out.below B5)
  replace HB := hidH (btr HB.out B5)
  have HS5 := hidH (own_below0 hS B5)
  have HI5 := hidH (hI.below B5)
  have HK5 := hidH K5
  have H5 := hidH hw5
  have HZ5 := hidH (show w3.heap.size ≤ w4.heap.size ∧ w5.heap.size = w4.heap.size + 1 from ⟨b4.size, s5⟩)
  clear hw5 hS hI b4 B5 K5 HCP hfre s5
  have k0 := HK.out.cell 0
  simp only [List.getElem?_toArray, List.getElem?_cons_zero] at k0
  have kl := HK.out.lt
  have p0 := HK5.out.cell 0
  have p1 := HK5.out.cell 1
  have p2 := HK5.out.cell 2
  have p3 := HK5.out.cell 3
  simp only [List.getElem?_toArray, List.getElem?_cons_succ, List.getElem?_cons_zero] at p0 p1 p2 p3
  have pl := HK5.out.lt
  go_upto_region 8 with (fail)
  rw [H5.out]
  go_wp2_with fail
  clear k0 kl p0 p1 p2 p3 pl
  refine HDC.out.mono ?_
  rintro e w6 ⟨rfl, b6⟩
  have B7 := b6.trans ((bal (Below.refl w6.heap.size w6) (.cells #[.int .i64 fr] 2)).mono b6.size)
  have K7 := Blk.new w6 2 #[.int .i64 fr]
  obtain ⟨w7, hw7⟩ : ∃ W, w6.alloc (.cells #[.int .i64 fr] 2) = W := ⟨_, rfl⟩
  have s7 : w7.heap.size = w6.heap.size + 1 := by rw [← hw7, World.size_alloc]
  rw [hw7] at B7 K7
  replace HS := hidH (HS.out.below B7)
  replace HK := hidH (HK.out.below B7)
  replace HR := hidH (HR.out.below B7)
  replace HB := hidH (btr HB.out B7)
  replace HS5 := hidH (own_below0 HS5.out B7)
  replace HI5 := hidH (HI5.out.below B7)
  replace HK5 := hidH (HK5.out.below B7)
  have HK7 := hidH K7
  have H7 := hidH hw7
  have HZ7 := hidH (show w4.heap.size + 1 ≤ w6.heap.size ∧ w7.heap.size = w6.heap.size + 1 from ⟨by have := HZ5.out.2; have := b6.size; omega, s7⟩)
  clear hw7 B7 K7 b6 s7 HDC H5
  by_cases h3 : 2147483647 < fr
  · have HE := hidH (HV4.out (by rw [HFR.out]; exact h3))
    have O6 := res_own 0 y.Next y.Acked true HS5.out HI5.out (LZ.none w7 w3.heap.size) (fun x _ z hz => by simp [RowZ] at hz)
    have p0 := HK5.out.cell 0
    have p1 := HK5.out.cell 1
    have p2 := HK5.out.cell 2
    have p3 := HK5.out.cell 3
    simp only [List.getElem?_toArray, List.getElem?_cons_succ, List.getElem?_cons_zero] at p0 p1 p2 p3
    have pl := HK5.out.lt
    have O7 := O6.mono (B' := u.heap.size + 1 + 1 + 1) HZ.out (Nat.le_refl _) (Nat.le_refl _)
    go_upto_region 10 with (fail)
    rw [H7.out]
    clear HV3 HV4 HV5 O6
    have R9 := HR.out
    have q0 := R9.cell 0
    have z0 := R9.frozen 0
    have q1 := R9.cell 1
    have z1 := R9.frozen 1
    have q2 := R9.cell 2
    have z2 := R9.frozen 2
    have q3 := R9.cell 3
    have z3 := R9.frozen 3
    have q4 := R9.cell 4
    have z4 := R9.frozen 4
    have q5 := R9.cell 5
    have z5 := R9.frozen 5
    have q6 := R9.cell 6
    have z6 := R9.frozen 6
    simp only [List.getElem?_toArray, List.getElem?_cons_succ, List.getElem?_cons_zero] at q0 q1 q2 q3 q4 q5 q6
    have lq := R9.lt
    have HOWN := hidH (O7)
    clear R9
    go_wp2
    have WN := ((((((set_win w7 (u.heap.size + 1 + 1) 0 (.int .i64 0)).trans (set_win _ (u.heap.size + 1 + 1) 1 (.int .i64 y.Next))).trans (set_win _ (u.heap.size + 1 + 1) 2 (.int .i64 y.Acked))).trans (set_win _ (u.heap.size + 1 + 1) 3 (.slice SA y.Seqs.length sc))).trans (set_win _ (u.heap.size + 1 + 1) 4 (.slice IA y.Items.length ic))).trans (set_win _ (u.heap.size + 1 + 1) 5 (.slice none 0 0))).trans (set_win _ (u.heap.size + 1 + 1) 6 (.bool true))
    have sz9 : u.heap.size ≤ w7.heap.size := HB.out.size
    exact bodyPost_ret (v := .agg #[.int .i64 0, .int .i64 y.Next, .int .i64 y.Acked, .slice SA y.Seqs.length sc, .slice IA y.Items.length ic, .slice none 0 0, .bool true]) (by simp [results, Try.results20, go_sem, q0, q1, q2, q3, q4, q5, q6]) rfl ⟨_, rfl, by rw [HE.out]; exact (HOWN.out.win WN (.inr (Nat.le_refl _))).mono (by omega) WN.size (Nat.le_refl _), (HB.out).trans (WN.below (by omega) |>.mono (by omega))⟩
  have HF3 := hidH h3
  replace HV4 := hidH HF3
  have hkz := ksF_zero HF2.out
  have HRE := hidH (fun (W : World) (hW : Below w7.heap.size w7 W) => reach_impl y.Next y.Acked k.Cum (SA) (IA) A y.Seqs.length y.Items.length sc ic c k.Gaps W (HGP.out W (btr HB.out hW)) hkz.2.1 (fun x hx => by have := (okGaps_mem hkz.2.2 x hx).2; omega))
  have HDN := hidH (HDI.out y.Next)
  have hTOP : topV y k = gapV y.Acked k.Cum + lastTo k.Gaps := rfl
  rw [← hTOP] at HRE
  obtain ⟨tp, htp⟩ : ∃ tp, topV y k = tp := ⟨_, rfl⟩
  obtain ⟨en, hen⟩ : ∃ en, gapV y.Acked y.Next = en := ⟨_, rfl⟩
  rw [htp] at HRE
  rw [hen] at HDN
  have HTP := hidH htp
  have HEN := hidH hen
  obtain ⟨z, hz⟩ : ∃ z, decide (en ≤ tp) = z := ⟨_, rfl⟩
  have HZZ := hidH hz
  clear hTOP htp hen hkz HDI
  go_upto_region 11 with (fail)
  rw [H7.out]
  refine wp_region_any (by kernel_rfl) ?_
  refine regTK11 _ _ _ _ _ _ _ _ _ _ _ _ _ _ _ _ _ _ _ _ _ _ _ _ _ _ _ _ _ _ _ _ _ _ w7 (u.heap.size + 1) w4.heap.size y k SA IA A sc ic c tp en z hz HK5.out HK.out HRE.out HDN.out (by kernel_rfl) (by kernel_rfl) (by kernel_rfl) rfl (Below.refl _ _).drew ?_
  intros
  rename_i w8 b8
  replace HS := hidH (HS.out.below b8)
  replace HK := hidH (HK.out.below b8)
  replace HR := hidH (HR.out.below b8)
  replace HB := hidH (btr HB.out b8)
  replace HS5 := hidH (own_below0 HS5.out b8)
  replace HI5 := hidH (HI5.out.below b8)
  replace HK5 := hidH (HK5.out.below b8)
  replace HK7 := hidH (HK7.out.below b8)
  have HZ8 := hidH b8.size
  clear b8 hz HRE HDN H7
  cases z
  case true =>
    have HE := hidH (HV3.out (by rw [HFR.out]; have := HF3.out; omega) (by rw [HEN.out, HTP.out]; exact of_decide_eq_true HZZ.out))
    clear HV3 HV5 HV4
    have R9 := HR.out
    have q0 := R9.cell 0
    have z0 := R9.frozen 0
    have q1 := R9.cell 1
    have z1 := R9.frozen 1
    have q2 := R9.cell 2
    have z2 := R9.frozen 2
    have q3 := R9.cell 3
    have z3 := R9.frozen 3
    have q4 := R9.cell 4
    have z4 := R9.frozen 4
    have q5 := R9.cell 5
    have z5 := R9.frozen 5
    have q6 := R9.cell 6
    have z6 := R9.frozen 6
    simp only [List.getElem?_toArray, List.getElem?_cons_succ, List.getElem?_cons_zero] at q0 q1 q2 q3 q4 q5 q6
    have lq := R9.lt
    have HOWN := hidH (show OwN (u.heap.size + 1 + 1 + 1) w8.heap.size w8 _ _ from sr_none10 8 (Nat.le_refl _))
    clear R9
    go_wp2
    have WN := ((((((set_win w8 (u.heap.size + 1 + 1) 0 (.int .i64 8)).trans (set_win _ (u.heap.size + 1 + 1) 1 (.int .i64 0))).trans (set_win _ (u.heap.size + 1 + 1) 2 (.int .i64 0))).trans (set_win _ (u.heap.size + 1 + 1) 3 (.slice none 0 0))).trans (set_win _ (u.heap.size + 1 + 1) 4 (.slice none 0 0))).trans (set_win _ (u.heap.size + 1 + 1) 5 (.slice none 0 0))).trans (set_win _ (u.heap.size + 1 + 1) 6 (.bool false))
    have sz9 : u.heap.size ≤ w8.heap.size := HB.out.size
    exact bodyPost_ret (v := .agg #[.int .i64 8, .int .i64 0, .int .i64 0, .slice none 0 0, .slice none 0 0, .slice none 0 0, .bool false]) (by simp [results, Try.results20, go_sem, q0, q1, q2, q3, q4, q5, q6]) rfl ⟨_, rfl, by rw [HE.out]; exact (HOWN.out.win WN (.inr (Nat.le_refl _))).mono (by omega) WN.size (Nat.le_refl _), (HB.out).trans (WN.below (by omega) |>.mono (by omega))⟩
  have HE := hidH (HV5.out (by rw [HFR.out]; have := HF3.out; omega) (by rw [HEN.out, HTP.out]; have := of_decide_eq_false HZZ.out; omega))
  clear HV3 HV5 HV4
  have p0 := HK5.out.cell 0
  have p3 := HK5.out.cell 3
  simp only [List.getElem?_toArray, List.getElem?_cons_succ, List.getElem?_cons_zero] at p0 p3
  have pl := HK5.out.lt
  have B9 := bal (Below.refl w8.heap.size w8) (.cells #[.slice IA y.Items.length ic] 118)
  have K9 := Blk.new w8 118 #[.slice IA y.Items.length ic]
  obtain ⟨w9, hw9⟩ : ∃ W, w8.alloc (.cells #[.slice IA y.Items.length ic] 118) = W := ⟨_, rfl⟩
  rw [hw9] at B9 K9
  replace HK := hidH (HK.out.below B9)
  replace HR := hidH (HR.out.below B9)
  replace HB := hidH (btr HB.out B9)
  replace HS5 := hidH (own_below0 HS5.out B9)
  replace HI5 := hidH (HI5.out.below B9)
  replace HK5 := hidH (HK5.out.below B9)
  replace HK7 := hidH (HK7.out.below B9)
  have HW9 := hidH hw9
  have HTK := hidH (take_any (tkB y k) y.Items ks w8.heap.size (u.heap.size + 1) w4.heap.size w6.heap.size w3.heap.size w3.heap.size _ w9 K9 HI5.out (by have := HY.out.items; omega) (fun j hj gi W hW hgi hc => tk1_any y k HY.out HF2.out y.Items[j] (List.getElem_mem hj) gi (j * 9) (u.heap.size + 1) w4.heap.size w6.heap.size SA IA A sc ic c W (by first | exact hgi | exact Nat.lt_of_lt_of_le hgi hW.size) hc (HK5.out.below hW) (HK.out.below hW) (by rw [HFR.out]; exact HK7.out.below hW) (HGP.out W (btr HB.out hW))))
  have HK9 := hidH K9
  have HZ9 := hidH B9.size
  clear hw9 B9 K9
  go_upto_region 14 with (fail)
  rw [HW9.out]
  clear p0 p3 pl
  go_wp2_with fail
  refine HTK.out.mono ?_
  rintro e wa ⟨vT, vL, kl, kg, rfl, hbx, hlf, hgn, hlk, hwn⟩
  obtain ⟨LA, lc, rfl⟩ := own_lenT hlf
  obtain ⟨TA, tc, rfl⟩ := own_lenT hgn
  have hko := (HZ7.out); have hz8 := HZ8.out; have hz5 := HZ5.out; have hzz := HZ.out
  have hK5 := HK5.out.win2 hwn (.inl (by omega))
  have hKb := HK.out.win2 hwn (.inl (by omega))
  have hS5 := own_winT HS5.out hwn HK9.out (by decide)
  have hrf := HI5.out.rts.turn hwn.size (B8.of_win hwn HK9.out (by decide))
  obtain ⟨r1, r2, r3⟩ := hlk.fin HI5.out.len hrf
  have ll := hlk.ll
  have lg := hlk.lg
  rw [lfI_all] at ll
  rw [gnI_all] at lg
  replace HR := hidH (HR.out.win2 hwn (.inl (by omega)))
  replace HB := hidH (HB.out.trans ((hwn.below (B := w8.heap.size) (by have := HK9.out.lt; omega)).mono (by have := HB.out.size; omega)))
  have HNG := hidH (show (y.Items.filter (tkB y k)).length ≤ 40 from Nat.le_trans (List.length_filter_le _ _) HY.out.items)
  obtain ⟨G, hG⟩ : ∃ G, y.Items.filter (tkB y k) = G := ⟨_, rfl⟩
  obtain ⟨L, hL⟩ : ∃ L, y.Items.filter (fun x => !tkB y k x) = L := ⟨_, rfl⟩
  rw [hG] at hgn r2 r3 lg HNG HE ⊢
  rw [hL] at hlf r1 r3 ll hbx HE
  have HBX := hidH hbx
  have HLF := hidH hlf
  have HGN := hidH hgn
  have HR1 := hidH r1
  have HR2 := hidH r2
  have HR3 := hidH r3
  have HLL := hidH ll
  have HLG := hidH lg
  have HA5 := hidH hK5
  have HAK := hidH hKb
  have HAS := hidH hS5
  have HWN := hidH hwn
  have q0 := hK5.cell 0
  have q1 := hK5.cell 1
  have q3 := hK5.cell 3
  have kk0 := hKb.cell 0
  have bb0 := hbx.cell 0
  simp only [List.getElem?_toArray, List.getElem?_cons_succ, List.getElem?_cons_zero] at q0 q1 q3 kk0 bb0
  have qf1 := hK5.frozen 1
  have qf3 := hK5.frozen 3
  have ql := hK5.lt
  have kkl := hKb.lt
  have bbl := hbx.lt
  clear hbx hlf hgn hlk hwn hK5 hKb hS5 hrf r1 r2 r3 ll lg hko hz8 hz5 hzz hG hL HTK
  go_upto_region 15 with (fail)
  go_region
  obtain ⟨wb, hwb⟩ : ∃ W, ((wa.setCell ⟨w4.heap.size, 3, none⟩ (.slice LA L.length lc)).setCell ⟨w4.heap.size, 1, none⟩ (.int .i64 k.Cum)).drew = W := ⟨_, rfl⟩
  have WS := (set_win wa w4.heap.size 3 (.slice LA L.length lc)).trans (set_win _ w4.heap.size 1 (.int .i64 k.Cum))
  have WB : Win w4.heap.size (w4.heap.size + 1) wa wb := by rw [← hwb]; exact ⟨WS.os, WS.tape, WS.output, WS.size, WS.block, WS.frozen⟩
  have KB5 : Blk wb w4.heap.size 47 #[.int .i64 y.Next, .int .i64 k.Cum, .slice SA y.Seqs.length sc, .slice LA L.length lc] := by rw [← hwb]; exact ((HA5.out.put 3 _).put 1 _).below (Below.refl _ _).drew
  have h8 := B8.of_win WB HA5.out (by decide)
  rw [hwb]
  have hz5 := HZ5.out; have hzz := HZ.out
  have HSL := hidH (own_winT HLF.out WB HA5.out (by decide))
  have HSS := hidH (own_winT HAS.out WB HA5.out (by decide))
  have HSG := hidH (show SZ wb w3.heap.size w9.heap.size (.slice TA G.length tc) G kg from ⟨own_winT HGN.out WB HA5.out (by decide), by unfold RFs; rw [RowI_e]; exact HR2.out.turn WB.size h8, HLG.out⟩)
  replace HR1 := hidH (HR1.out.turn WB.size h8)
  replace HR := hidH (HR.out.win2 WB (.inl (by omega)))
  replace HB := hidH (HB.out.trans ((WB.below (B := w4.heap.size) (by have := HA5.out.lt; omega)).mono (by have := HB.out.size; omega)))
  have HKB := hidH KB5
  have hgn40 : (G.length : Int) ≤ 40 := by have := HNG.out; omega
  have HZ10 := hidH (show w3.heap.size ≤ wb.heap.size ∧ w9.heap.size ≤ wb.heap.size from ⟨by have := WB.size; have := HWN.out.size; have := HZ9.out; have := HZ8.out; have := HZ7.out; omega, Nat.le_trans HWN.out.size WB.size⟩)
  clear hwb WS WB KB5 h8 hz5 hzz HLF HAS HGN HA5 HAK HBX HWN q0 q1 q3 qf1 qf3 ql kk0 kkl bb0 bbl
  go_wp2
  go_loopw [11, 56] (fun v i wr => ∃ j : Nat, j ≤ G.length ∧ i = .int .i64 j ∧ wr.ownsRow wb.heap.size 69 7 v j (flatR (RowZ ((G.take j).map SendItemM.d) (kg.take j))) ∧ Below wb.heap.size wb wr) (fun _ i _ => G.length - (intOf i).toNat)
  case atStart => exact ⟨0, by omega, rfl, by simp only [List.take_zero, List.map_nil]; exact ⟨rfl, .inl ⟨rfl, rfl⟩⟩, Below.refl _ _⟩
  case round =>
    obtain ⟨j, hj, rfl, ho, hBr⟩ := hrel
    obtain ⟨Ad, cd, rfl⟩ := own_lenT ho
    have HO := hidH ho
    have HBR := hidH hBr
    clear ho
    by_cases hlt : j < G.length
    case neg =>
      obtain rfl : j = G.length := by omega
      rw [List.take_length, show kg.take G.length = kg by rw [← HLG.out, List.take_length]] at HO
      have KX := HKB.out.below hBr
      have p0 := KX.cell 0
      have p1 := KX.cell 1
      have p2 := KX.cell 2
      have p3 := KX.cell 3
      simp only [List.getElem?_toArray, List.getElem?_cons_succ, List.getElem?_cons_zero] at p0 p1 p2 p3
      have pl := KX.lt
      have hb8 := B8.of_below hBr
      have O6 := res_own (w := wr) (B := w3.heap.size) 0 y.Next k.Cum false (own_below0 HSS.out hBr) ⟨own_monoT (own_below0 HSL.out hBr) (Nat.le_trans (by have := HZ9.out; have := HZ8.out; have := HZ7.out; have := HZ5.out; omega) (Nat.le_refl w9.heap.size)), HR1.out.turn hBr.size hb8, HLL.out⟩
        (show LZ wr w3.heap.size (.slice Ad G.length cd) (G.map SendItemM.d) kg from ⟨by rw [List.length_map]; exact own_monoT HO.out HZ10.out.1, by have h := HSG.out.rts; unfold RFs at h; rw [RowI_e] at h; exact h.turn hBr.size hb8, by rw [List.length_map]; exact HLG.out⟩) HR3.out
      replace HR := hidH (HR.out.below hBr)
      replace HB := hidH (btr HB.out hBr)
      have O7 := O6.mono (B' := u.heap.size + 1 + 1 + 1) HZ.out (Nat.le_refl _) (Nat.le_refl _)
      clear hb8 KX O6 hBr hlt hj
      have R9 := HR.out
      have q0 := R9.cell 0
      have z0 := R9.frozen 0
      have q1 := R9.cell 1
      have z1 := R9.frozen 1
      have q2 := R9.cell 2
      have z2 := R9.frozen 2
      have q3 := R9.cell 3
      have z3 := R9.frozen 3
      have q4 := R9.cell 4
      have z4 := R9.frozen 4
      have q5 := R9.cell 5
      have z5 := R9.frozen 5
      have q6 := R9.cell 6
      have z6 := R9.frozen 6
      simp only [List.getElem?_toArray, List.getElem?_cons_succ, List.getElem?_cons_zero] at q0 q1 q2 q3 q4 q5 q6
      have lq := R9.lt
      have HOWN := hidH (O7)
      clear R9
      go_wp2
      have WN := ((((((set_win wr (u.heap.size + 1 + 1) 0 (.int .i64 0)).trans (set_win _ (u.heap.size + 1 + 1) 1 (.int .i64 y.Next))).trans (set_win _ (u.heap.size + 1 + 1) 2 (.int .i64 k.Cum))).trans (set_win _ (u.heap.size + 1 + 1) 3 (.slice SA y.Seqs.length sc))).trans (set_win _ (u.heap.size + 1 + 1) 4 (.slice LA L.length lc))).trans (set_win _ (u.heap.size + 1 + 1) 5 (.slice Ad G.length cd))).trans (set_win _ (u.heap.size + 1 + 1) 6 (.bool false))
      have sz9 : u.heap.size ≤ wr.heap.size := HB.out.size
      exact bodyPost_ret (v := .agg #[.int .i64 0, .int .i64 y.Next, .int .i64 k.Cum, .slice SA y.Seqs.length sc, .slice LA L.length lc, .slice Ad G.length cd, .bool false]) (by simp [results, Try.results20, go_sem, q0, q1, q2, q3, q4, q5, q6]) rfl ⟨_, rfl, by rw [HE.out]; exact (HOWN.out.win WN (.inr (Nat.le_refl _))).mono (by omega) WN.size (Nat.le_refl _), (HB.out).trans (WN.below (by omega) |>.mono (by omega))⟩
    have hj0 : (0 : Int) ≤ (j : Int) := by omega
    have hj1 : (j : Int) < (G.length : Int) := by omega
    obtain ⟨gi, ci, A9, n9, c9, eI, _, hgi, ⟨kj, hkj, e9⟩, hcell⟩ := (HSG.out.below hBr).cell9 hlt
    injection eI with eI _ eC
    subst eI eC
    obtain ⟨x, hx⟩ : ∃ x, G[j] = x := ⟨_, rfl⟩
    rw [hx] at hcell
    have HX := hidH hx
    have HKJ := hidH hkj
    have HE9 := hidH e9
    have d0 := hcell 0 _ rfl
    have d1 := hcell 1 _ rfl
    have d2 := hcell 2 _ rfl
    have d3 := hcell 3 _ rfl
    have d4 := hcell 4 _ rfl
    have d5 := hcell 5 _ rfl
    have d6 := hcell 6 _ rfl
    have d7 := hcell 7 _ rfl
    have d8 := hcell 8 _ rfl
    rw [Nat.add_zero] at d0
    have B1 := bal (Below.refl wr.heap.size wr) (.cells #[.int .i64 x.Data_Tsn, .int .i64 x.Data_Stream, .int .i64 x.Data_Seq, .bool x.Data_First, .bool x.Data_Last, .bool x.Data_Unordered, .slice A9 n9 c9, .int .i64 x.Sent, .int .i64 x.Due] 121)
    have B2 := bal (Below.refl (wr.alloc (.cells #[.int .i64 x.Data_Tsn, .int .i64 x.Data_Stream, .int .i64 x.Data_Seq, .bool x.Data_First, .bool x.Data_Last, .bool x.Data_Unordered, .slice A9 n9 c9, .int .i64 x.Sent, .int .i64 x.Due] 121)).heap.size (wr.alloc (.cells #[.int .i64 x.Data_Tsn, .int .i64 x.Data_Stream, .int .i64 x.Data_Seq, .bool x.Data_First, .bool x.Data_Last, .bool x.Data_Unordered, .slice A9 n9 c9, .int .i64 x.Sent, .int .i64 x.Due] 121))) (.cells #[.int .i64 x.Data_Tsn, .int .i64 x.Data_Stream, .int .i64 x.Data_Seq, .bool x.Data_First, .bool x.Data_Last, .bool x.Data_Unordered, .slice A9 n9 c9] 69)
    have K2 := Blk.new (wr.alloc (.cells #[.int .i64 x.Data_Tsn, .int .i64 x.Data_Stream, .int .i64 x.Data_Seq, .bool x.Data_First, .bool x.Data_Last, .bool x.Data_Unordered, .slice A9 n9 c9, .int .i64 x.Sent, .int .i64 x.Due] 121)) 69 #[.int .i64 x.Data_Tsn, .int .i64 x.Data_Stream, .int .i64 x.Data_Seq, .bool x.Data_First, .bool x.Data_Last, .bool x.Data_Unordered, .slice A9 n9 c9]
    rw [World.size_alloc] at K2
    have HK2 := hidH K2
    have HO2 := hidH (own_below0 (own_below0 HO.out B1) B2)
    have HBB := hidH (btr (btr hBr B1) B2)
    have HS2 := hidH (show wb.heap.size ≤ ((wr.alloc (.cells #[.int .i64 x.Data_Tsn, .int .i64 x.Data_Stream, .int .i64 x.Data_Seq, .bool x.Data_First, .bool x.Data_Last, .bool x.Data_Unordered, .slice A9 n9 c9, .int .i64 x.Sent, .int .i64 x.Due] 121)).alloc (.cells #[.int .i64 x.Data_Tsn, .int .i64 x.Data_Stream, .int .i64 x.Data_Seq, .bool x.Data_First, .bool x.Data_Last, .bool x.Data_Unordered, .slice A9 n9 c9] 69)).heap.size from HBB.out.size)
    clear hcell hkj e9 hx B1 B2 K2 hj hBr
    go_wp2_with (at_builtin; go_loud (refine wpList_append_Da rfl _ _ rfl wb.heap.size _ j _ rfl HO2.out (wr.heap.size + 1) _ x.Data_Tsn x.Data_Stream x.Data_Seq x.Data_First x.Data_Last x.Data_Unordered A9 n9 c9 rfl HK2.out (by have := HNG.out; omega) HS2.out ?_))
    intro v2 w2 o2 hg
    have BN := HBB.out.grown hg HS2.out (fun kk hk => (own_block HO2.out hk).1)
    have HBN := hidH BN
    have HO3 := hidH o2
    clear BN o2 hg HO2 HBB HS2 HK2 d0 d1 d2 d3 d4 d5 d6 d7 d8 hgi
    go_wp2
    go_roundw
    case rel =>
      have hkk : (kg[j]'(by rw [HLG.out]; exact hlt)) = kj := by have := HKJ.out; rw [List.getElem?_eq_getElem (by rw [HLG.out]; exact hlt)] at this; injection this
      refine ⟨j + 1, by omega, by go_num, ?_, HBN.out⟩
      rw [rowZ_step hlt HLG.out, hkk, flatR_app, HE9.out, HX.out]
      have h9 := HO3.out
      rw [← List.map_take] at h9
      exact h9
    case measure => simp [intOf]; omega
theorem ts_impl (y : SendM) (vs : List Value) (k : SackM) (vk : List Value) (u : World) (h : RdA u y.vs vs) (_ : WfA y.vs) (_ : tot.totL y.vs ≤ 1048576) (h1 : RdA u k.vs vk) (_ : WfA k.vs) (_ : tot.totL k.vs ≤ 1048576) : Calls Try.prog 20 #[.agg vs.toArray, .agg vk.toArray] u (Res u (tsR y k).vs) := tsw_impl y vs k vk u h h1
end Go.Proofs.Ythljdikcpdokdaa
