/- Chapter 9: the model's RecvFault. -/
import Derived.Test.YtncnibkojneejaaS9F
import Derived.Test.YtncnibkojneejaaS5Data
namespace Go.Proofs.Ytncnibkojneejaa
open Go.RowKit Go.Deep

set_option maxRecDepth 100000 in
set_option maxHeartbeats 16000000 in
theorem rvFw_spec (y : RecvM) (vs : List Value) (u : World) (h : RdA u y.vs vs) : Calls Try.prog 15 #[.agg vs.toArray] u (IntR (rvF y) u) := by
  obtain ⟨A1, c1, A2, c2, A3, c3, rfl, hI, hP, hN, hm1, hm2, hm3⟩ := recv_sh h
  have HBI := hidH (fun (W : World) (hW : Below u.heap.size u W) => is_below hI hW)
  have HNI := hidH (fun (W : World) (hW : Below u.heap.size u W) => is_below hN hW)
  have HEL := hidH (fun (j : Nat) (hj : j < y.Pieces.length) (W : World) (hW : Below u.heap.size u W) => show ∃ ga oa x, A2 = some ⟨ga, oa, none⟩ ∧ y.Pieces[j]? = some x ∧ ga < u.heap.size ∧ RdL W x.vs ga (oa + j * 7) from by
    obtain ⟨ga, oa, c', e, hga, E⟩ := el_Data hP hj
    injection e with e1 e2 e3
    exact ⟨ga, oa, y.Pieces[j], e1, List.getElem?_eq_getElem hj, hga, RdL.below hW _ hga E⟩)
  obtain ⟨w1, hw1⟩ : ∃ W, u.alloc (.cells #[.int .i64 y.Cum, .slice A1 y.Beyond.length c1, .slice A2 y.Pieces.length c2, .slice A3 y.Next.length c3] 27) = W := ⟨_, rfl⟩
  have KB := Blk.new u 27 #[.int .i64 y.Cum, .slice A1 y.Beyond.length c1, .slice A2 y.Pieces.length c2, .slice A3 y.Next.length c3]
  have B1 := bal (Below.refl u.heap.size u) (.cells #[.int .i64 y.Cum, .slice A1 y.Beyond.length c1, .slice A2 y.Pieces.length c2, .slice A3 y.Next.length c3] 27)
  rw [hw1] at KB B1
  have H1 := hidH hw1
  have HB := hidH B1
  have HK := hidH KB
  clear h hI hP hN hw1 B1 KB
  by_cases k1 : wB y.Cum = true
  case neg =>
    have k1 : wB y.Cum = false := by simpa using k1
    have HE := hidH (rvF_range k1)
    go_enter Try.func15, Try.ntmps15
    go_wp2_with (first | (go_at_call 37; refine (word32_any _ _).mono ?_; rintro e w' ⟨rfl, rfl⟩))
    go_ret
    exact ⟨ret_int HE.out.symm, by rw [H1.out]; exact HB.out⟩
  by_cases n1 : 16 < y.Beyond.length
  · have HE := hidH (rvF_many k1 (rvN_b n1))
    have n1' : (16 : Int) < (y.Beyond.length : Int) := by omega
    clear n1
    go_enter Try.func15, Try.ntmps15
    go_wp2_with (first | (go_at_call 37; refine (word32_any _ _).mono ?_; rintro e w' ⟨rfl, rfl⟩))
    go_ret
    exact ⟨ret_int HE.out.symm, by rw [H1.out]; exact HB.out⟩
  have n1' : ¬ (16 : Int) < (y.Beyond.length : Int) := by omega
  by_cases n2 : 64 < y.Pieces.length
  · have HE := hidH (rvF_many k1 (rvN_p n2))
    have n2' : (64 : Int) < (y.Pieces.length : Int) := by omega
    clear n2 n1
    go_enter Try.func15, Try.ntmps15
    go_wp2_with (first | (go_at_call 37; refine (word32_any _ _).mono ?_; rintro e w' ⟨rfl, rfl⟩))
    go_ret
    exact ⟨ret_int HE.out.symm, by rw [H1.out]; exact HB.out⟩
  have n2' : ¬ (64 : Int) < (y.Pieces.length : Int) := by omega
  by_cases n3 : y.Next.length = 10
  case neg =>
    have HE := hidH (rvF_many k1 (rvN_n n3))
    have n3' : ((y.Next.length : Int) != 10) = true := by rw [bne_iff_ne]; omega
    clear n3 n2 n1
    go_enter Try.func15, Try.ntmps15
    go_wp2_with (first | (go_at_call 37; refine (word32_any _ _).mono ?_; rintro e w' ⟨rfl, rfl⟩))
    go_ret
    exact ⟨ret_int HE.out.symm, by rw [H1.out]; exact HB.out⟩
  have HBL := hidH (show (y.Beyond.length : Int) ≤ 1000000 by omega)
  have HY := hidH (rvN_y n1 n2 n3)
  have HK1 := hidH k1
  have HWC := hidH (wB_is k1)
  have HBZ := hidH (fun z => rvF_by HK1.out HY.out (y := y) z)
  have n3' : ((y.Next.length : Int) != 10) = false := by rw [bne_eq_false_iff_eq]; omega
  have n10 : (y.Next.length : Int) ≤ 100 := by omega
  clear n1 n2 n3 hm1 hm2 hm3
  go_enter Try.func15, Try.ntmps15
  go_wp2_with (first | (go_at_call 37; refine (word32_any _ _).mono ?_; rintro e w' ⟨rfl, rfl⟩))
  rw [H1.out]
  go_loopw [3, 4] (fun p i wr => ∃ (j : Nat) (a : Int), j ≤ y.Beyond.length ∧ p = .int .i64 a ∧ i = .int .i64 j ∧ Below w1.heap.size w1 wr ∧ byF y.Cum a (y.Beyond.drop j) = byF y.Cum 1 y.Beyond) (fun _ i _ => y.Beyond.length - (intOf i).toNat)
  case atStart => exact ⟨0, 1, by omega, rfl, rfl, Below.refl _ _, by simp⟩
  case round =>
    obtain ⟨j, a, hj, rfl, rfl, hBr, hk⟩ := hrel
    have KR := HK.out.below hBr
    have r0 := KR.cell 0
    have r1 := KR.cell 1
    have r2 := KR.cell 2
    have r3 := KR.cell 3
    simp only [List.getElem?_toArray, List.getElem?_cons_succ, List.getElem?_cons_zero] at r0 r1 r2 r3
    have rl := KR.lt
    clear KR
    by_cases hlt : j < y.Beyond.length
    case neg =>
      obtain rfl : j = y.Beyond.length := by omega
      have HF := hidH (show byF y.Cum 1 y.Beyond = 0 by rw [← hk, List.drop_length]; rfl)
      have HBr1 := hidH hBr
      clear hk hlt hj hBr HBZ
      obtain ⟨F, hF⟩ : ∃ F, psF y.Cum y.Beyond none y.Pieces = F := ⟨_, rfl⟩
      have HPZ := hidH (fun (z : F ≠ 0) => show rvF y = F by rw [← hF] at z ⊢; exact rvF_ps HK1.out HY.out HF.out z)
      have HST := hidH (fun (j : Nat) (x : DataM) (hx : y.Pieces[j]? = some x) (h : psF y.Cum y.Beyond (prv y.Pieces j) (y.Pieces.drop j) = F) => show (F = if poF y.Cum y.Beyond (prv y.Pieces j) x = 0 then psF y.Cum y.Beyond (prv y.Pieces (j + 1)) (y.Pieces.drop (j + 1)) else poF y.Cum y.Beyond (prv y.Pieces j) x) from by
        obtain ⟨hj, e⟩ := List.getElem?_eq_some_iff.1 hx
        have := psF_step y.Cum y.Beyond hj (h.trans hF.symm)
        rw [hF, e] at this
        exact this)
      have HFF := hidH hF
      have HS0 := hidH (show psF y.Cum y.Beyond (prv y.Pieces 0) (y.Pieces.drop 0) = F by rw [← hF]; rfl)
      clear hF
      go_wp2
      go_loopw [6] (fun i wr => ∃ j : Nat, j ≤ y.Pieces.length ∧ i = .int .i64 j ∧ Below w1.heap.size w1 wr ∧ psF y.Cum y.Beyond (prv y.Pieces j) (y.Pieces.drop j) = F ∧ (∀ q, prv y.Pieces j = some q → wB q = true)) (fun i _ => y.Pieces.length - (intOf i).toNat)
      case atStart => exact ⟨0, by omega, rfl, HBr1.out, HS0.out, fun q h => by cases h⟩
      case round =>
        obtain ⟨j, hj, rfl, hBr, hk, hq⟩ := hrel
        have KR := HK.out.below hBr
        have r0 := KR.cell 0
        have r1 := KR.cell 1
        have r2 := KR.cell 2
        have r3 := KR.cell 3
        simp only [List.getElem?_toArray, List.getElem?_cons_succ, List.getElem?_cons_zero] at r0 r1 r2 r3
        have rl := KR.lt
        clear KR
        by_cases hlt : j < y.Pieces.length
        case neg =>
          obtain rfl : j = y.Pieces.length := by omega
          have HG := hidH (show psF y.Cum y.Beyond none y.Pieces = 0 by rw [HFF.out, ← hk, List.drop_length]; rfl)
          have HBr2 := hidH hBr
          clear hk hlt hj hBr hq
          have HE := hidH (rvF_nx HK1.out HY.out HF.out HG.out)
          go_wp2
          go_loopw [8] (fun i wr => ∃ j : Nat, j ≤ y.Next.length ∧ i = .int .i64 j ∧ Below w1.heap.size w1 wr ∧ nxF (y.Next.drop j) = nxF y.Next) (fun i _ => y.Next.length - (intOf i).toNat)
          case atStart => exact ⟨0, by omega, rfl, HBr2.out, rfl⟩
          case round =>
            obtain ⟨j, hj, rfl, hBr, hk⟩ := hrel
            have KR := HK.out.below hBr
            have r0 := KR.cell 0
            have r1 := KR.cell 1
            have r2 := KR.cell 2
            have r3 := KR.cell 3
            simp only [List.getElem?_toArray, List.getElem?_cons_succ, List.getElem?_cons_zero] at r0 r1 r2 r3
            have rl := KR.lt
            clear KR
            by_cases hlt : j < y.Next.length
            · have hj0 : (0 : Int) ≤ (j : Int) := by omega
              have hj1 : (j : Int) < (y.Next.length : Int) := by omega
              obtain ⟨b, off, eA, hb, hcell⟩ := is_cell (HNI.out wr (btr HB.out hBr)) hlt
              have hs := nxF_step hlt
              obtain ⟨t, ht⟩ : ∃ t, y.Next.getD j 0 = t := ⟨_, rfl⟩
              rw [hk, ht] at hs
              rw [ht] at hcell
              subst eA
              have HS := hidH hs
              have HBr := hidH hBr
              clear hs ht hk hBr
              by_cases hv : inB t 0 65535 = true
              · have HX := hidH (show nxF (y.Next.drop (j + 1)) = nxF y.Next by rw [HS.out, hv, if_pos rfl])
                go_wp2_with (first | (go_at_call 42; refine (in_any _ _ _ _).mono ?_; rintro e w' ⟨rfl, rfl⟩))
                go_roundw
                case rel => exact ⟨j + 1, by omega, by go_num, HBr.out, HX.out⟩
                case measure => simp [intOf]; omega
              · have hv : inB t 0 65535 = false := by simpa using hv
                have HX := hidH (show rvF y = 3 by rw [HE.out, HS.out, hv]; rfl)
                go_wp2_with (first | (go_at_call 42; refine (in_any _ _ _ _).mono ?_; rintro e w' ⟨rfl, rfl⟩))
                go_ret
                exact ⟨ret_int HX.out.symm, btr HB.out HBr.out⟩
            · obtain rfl : j = y.Next.length := by omega
              have HX := hidH (show rvF y = 0 by rw [HE.out, ← hk, List.drop_length]; rfl)
              have HBr := hidH hBr
              clear hk hlt hj hBr
              go_wp2
              go_ret
              exact ⟨ret_int HX.out.symm, btr HB.out HBr.out⟩
        have hj0 : (0 : Int) ≤ (j : Int) := by omega
        have hj1 : (j : Int) < (y.Pieces.length : Int) := by omega
        obtain ⟨ga, oa, x, eA, hx, hga, EX⟩ := HEL.out j hlt wr (btr HB.out hBr)
        subst eA
        have HF1 := hidH (pdF_any ga (oa + j * 7) x wr EX)
        have hs := HST.out j x hx hk
        have HS := hidH hs
        have HNX := hidH (fun (z : pdF x = 0) => show ∀ q, prv y.Pieces (j + 1) = some q → wB q = true from fun q h => by
          obtain ⟨hj', e⟩ := List.getElem?_eq_some_iff.1 hx
          rw [prv_succ hj', e] at h; injection h with h; rw [← h]; exact pdF_tsn z)
        have HQP := hidH hq
        have HEX := hidH EX
        have HBr := hidH hBr
        have HGA := hidH hga
        clear hs hk hx EX hq hBr
        go_wp2_with fail
        refine HF1.out.mono ?_
        rintro e w3 ⟨rfl, b3⟩
        have HB3 := hidH (btr HBr.out b3)
        obtain ⟨B, cB, x0, _, _, _, _, _, _, _⟩ := mem_Data (RdL.below b3 _ (Nat.lt_of_lt_of_le HGA.out (btr HB.out HBr.out).size) HEX.out)
        have KR := (HK.out.below HBr.out).below b3
        clear r0 r1 r2 r3 rl
        have r0 := KR.cell 0
        have r1 := KR.cell 1
        have r2 := KR.cell 2
        have r3 := KR.cell 3
        simp only [List.getElem?_toArray, List.getElem?_cons_succ, List.getElem?_cons_zero] at r0 r1 r2 r3
        have rl := KR.lt
        clear KR b3 HF1 HEX HBr
        by_cases hz : pdF x = 0
        case neg =>
          have hz2 : (pdF x != 0) = true := by rw [bne_iff_ne]; exact hz
          have HE := hidH (show F = pdF x by
            have e : poF y.Cum y.Beyond (prv y.Pieces j) x = pdF x := by rw [poF, if_neg hz]
            rw [HS.out, e, if_neg hz])
          have HE2 := hidH (show rvF y = pdF x by rw [HPZ.out (by rw [HE.out]; exact hz), HE.out])
          obtain ⟨f, hf⟩ : ∃ f, pdF x = f := ⟨_, rfl⟩
          rw [hf] at hz2 HE2 ⊢
          clear hz HS hf
          go_wp2
          go_ret
          exact ⟨ret_int HE2.out.symm, btr HB.out HB3.out⟩
        have hz2 : (pdF x != 0) = false := by rw [bne_eq_false_iff_eq]; exact hz
        have HP := hidH (show poF y.Cum y.Beyond (prv y.Pieces j) x = if ordB (prv y.Pieces j) x.Tsn then (if arrB y.Cum y.Beyond x.Tsn then 0 else 8) else 1 by rw [poF, if_pos hz])
        replace HNX := hidH (HNX.out hz)
        have hwx := wB_is (pdF_tsn hz)
        rw [hz]
        have HQ := hidH (fun (o : ordB (prv y.Pieces j) x.Tsn = true) => show F = if arrB y.Cum y.Beyond x.Tsn then psF y.Cum y.Beyond (prv y.Pieces (j + 1)) (y.Pieces.drop (j + 1)) else 8 by
          rw [HS.out, HP.out, o, if_pos rfl]
          cases arrB y.Cum y.Beyond x.Tsn <;> rfl)
        have HN := hidH (fun (o : ordB (prv y.Pieces j) x.Tsn = false) => show F = 1 by rw [HS.out, HP.out, o]; rfl)
        obtain ⟨tx, htx⟩ : ∃ t, x.Tsn = t := ⟨_, rfl⟩
        rw [htx] at hwx HQ HN x0
        have HLC := hidH (fun (W : World) => (l1Less_any y.Cum tx W ⟨HWC.out, hwx⟩).mono (fun e w' h => And.intro h.1 (show w' = W from h.2.symm)))
        have HHS := hidH (fun (n : Nat) => (l1Has_any (w := w3.drewN n) A1 y.Beyond c1 tx (HBI.out _ (btr HB.out (below_drewN HB3.out n))) HBL.out).mono (fun e w' h => And.intro h.1 (show w' = w3.drewN n from h.2.symm)))
        have HWX := hidH hwx
        clear HP HS hz hz2 htx hwx
        rcases Nat.eq_zero_or_pos j with hj00 | hjp
        · subst hj00
          have HQ1 := hidH (HQ.out rfl)
          simp only [Nat.zero_mul, Nat.add_zero] at x0
          clear HQ HN HQP
          obtain ⟨b1, hb1⟩ : ∃ b, lessB y.Cum tx = b := ⟨_, rfl⟩
          obtain ⟨b2, hb2⟩ : ∃ b, decide (tx ∈ y.Beyond) = b := ⟨_, rfl⟩
          have HAB := hidH (show arrB y.Cum y.Beyond tx = (!b1 || b2) by rw [arrB, hb1, hb2])
          rw [hb1] at HLC
          rw [hb2] at HHS
          clear hb1 hb2
          cases b1
          · have HX := hidH (show psF y.Cum y.Beyond (prv y.Pieces (0 + 1)) (y.Pieces.drop (0 + 1)) = F by rw [HQ1.out, HAB.out]; rfl)
            go_wp2
            go_quiet (fail)
            go_wp2
            go_quiet ((go_at_call 40; exact (HLC.out _).mono (fun e w' h => ⟨h.1, _, h.2⟩)))
            go_wp2
            go_roundw
            case rel => exact ⟨0 + 1, by omega, by go_num, below_drewN (HB3.out) _, HX.out, HNX.out⟩
            case measure => simp [intOf]; omega
          · cases b2
            · have HX := hidH (show F = 8 by rw [HQ1.out, HAB.out]; rfl)
              have HX2 := hidH (show rvF y = 8 by rw [HPZ.out (by rw [HX.out]; decide), HX.out])
              go_wp2
              go_quiet (fail)
              go_wp2
              go_quiet (first | (go_at_call 40; exact (HLC.out _).mono (fun e w' h => ⟨h.1, _, h.2⟩)) | (go_at_call 41; exact (HHS.out _).mono (fun e w' h => ⟨h.1, _, h.2⟩)))
              go_wp2
              go_ret
              exact ⟨ret_int HX2.out.symm, below_drewN (below_drewN (btr HB.out HB3.out) _) _⟩
            · have HX := hidH (show psF y.Cum y.Beyond (prv y.Pieces (0 + 1)) (y.Pieces.drop (0 + 1)) = F by rw [HQ1.out, HAB.out]; rfl)
              go_wp2
              go_quiet (fail)
              go_wp2
              go_quiet (first | (go_at_call 40; exact (HLC.out _).mono (fun e w' h => ⟨h.1, _, h.2⟩)) | (go_at_call 41; exact (HHS.out _).mono (fun e w' h => ⟨h.1, _, h.2⟩)))
              go_wp2
              go_roundw
              case rel => exact ⟨0 + 1, by omega, by go_num, below_drewN (HB3.out) _, HX.out, HNX.out⟩
              case measure => simp [intOf]; omega
        · obtain ⟨i, rfl⟩ : ∃ i, j = i + 1 := ⟨j - 1, by omega⟩
          rw [show ((i + 1 : Nat) : Int) = (i : Int) + 1 by omega] at hj0 hj1 ⊢
          have hi0 : (0 : Int) ≤ (i : Int) := by omega
          have hi1 : (i : Int) < (y.Pieces.length : Int) := by omega
          have hgt : (0 : Int) < (i : Int) + 1 := by omega
          have hlti : i < y.Pieces.length := by omega
          obtain ⟨g', o', z, e, hz, _, EZ⟩ := HEL.out i hlti w3 (btr HB.out HB3.out)
          injection e with e
          injection e with e1 e2
          subst e1 e2
          have HPV := hidH (show prv y.Pieces (i + 1) = some z.Tsn by rw [prv_succ hlti]; rw [List.getElem?_eq_getElem hlti] at hz; injection hz with hz; rw [hz])
          obtain ⟨Bz, cBz, e0, _, _, _, _, _, _, _⟩ := mem_Data EZ
          have hwq := wB_is (HQP.out _ HPV.out)
          obtain ⟨q, hq⟩ : ∃ q, z.Tsn = q := ⟨_, rfl⟩
          rw [hq] at e0 HPV hwq
          have HO := hidH (show ordB (prv y.Pieces (i + 1)) tx = lessB q tx by rw [HPV.out]; rfl)
          have HLQ := hidH (fun (W : World) => (l1Less_any q tx W ⟨hwq, HWX.out⟩).mono (fun e w' h => And.intro h.1 (show w' = W from h.2.symm)))
          obtain ⟨o, ho⟩ : ∃ o, lessB q tx = o := ⟨_, rfl⟩
          rw [ho] at HO HLQ
          clear hz hq hjp HPV ho EZ hwq HQP
          cases o
          · have HX := hidH (HN.out HO.out)
            have HX2 := hidH (show rvF y = 1 by rw [HPZ.out (by rw [HX.out]; decide), HX.out])
            clear HN HQ HO
            go_wp2
            go_quiet ((go_at_call 40; exact Calls.quiet_of_same (HLQ.out _)))
            go_wp2
            go_ret
            exact ⟨ret_int HX2.out.symm, below_drewN (btr HB.out HB3.out) _⟩
          have HQ1 := hidH (HQ.out HO.out)
          clear HN HQ HO
          obtain ⟨b1, hb1⟩ : ∃ b, lessB y.Cum tx = b := ⟨_, rfl⟩
          obtain ⟨b2, hb2⟩ : ∃ b, decide (tx ∈ y.Beyond) = b := ⟨_, rfl⟩
          have HAB := hidH (show arrB y.Cum y.Beyond tx = (!b1 || b2) by rw [arrB, hb1, hb2])
          rw [hb1] at HLC
          rw [hb2] at HHS
          clear hb1 hb2
          cases b1
          · have HX := hidH (show psF y.Cum y.Beyond (prv y.Pieces ((i + 1) + 1)) (y.Pieces.drop ((i + 1) + 1)) = F by rw [HQ1.out, HAB.out]; rfl)
            go_wp2
            go_quiet ((go_at_call 40; exact Calls.quiet_of_same (HLQ.out _)))
            go_wp2
            go_quiet ((go_at_call 40; exact (HLC.out _).mono (fun e w' h => ⟨h.1, _, h.2⟩)))
            go_wp2
            go_roundw
            case rel => exact ⟨(i + 1) + 1, by omega, by go_num, below_drewN (HB3.out) _, HX.out, HNX.out⟩
            case measure => simp [intOf]; omega
          · cases b2
            · have HX := hidH (show F = 8 by rw [HQ1.out, HAB.out]; rfl)
              have HX2 := hidH (show rvF y = 8 by rw [HPZ.out (by rw [HX.out]; decide), HX.out])
              go_wp2
              go_quiet ((go_at_call 40; exact Calls.quiet_of_same (HLQ.out _)))
              go_wp2
              go_quiet (first | (go_at_call 40; exact (HLC.out _).mono (fun e w' h => ⟨h.1, _, h.2⟩)) | (go_at_call 41; exact (HHS.out _).mono (fun e w' h => ⟨h.1, _, h.2⟩)))
              go_wp2
              go_ret
              exact ⟨ret_int HX2.out.symm, below_drewN (below_drewN (btr HB.out HB3.out) _) _⟩
            · have HX := hidH (show psF y.Cum y.Beyond (prv y.Pieces ((i + 1) + 1)) (y.Pieces.drop ((i + 1) + 1)) = F by rw [HQ1.out, HAB.out]; rfl)
              go_wp2
              go_quiet ((go_at_call 40; exact Calls.quiet_of_same (HLQ.out _)))
              go_wp2
              go_quiet (first | (go_at_call 40; exact (HLC.out _).mono (fun e w' h => ⟨h.1, _, h.2⟩)) | (go_at_call 41; exact (HHS.out _).mono (fun e w' h => ⟨h.1, _, h.2⟩)))
              go_wp2
              go_roundw
              case rel => exact ⟨(i + 1) + 1, by omega, by go_num, below_drewN (HB3.out) _, HX.out, HNX.out⟩
              case measure => simp [intOf]; omega
    have hj0 : (0 : Int) ≤ (j : Int) := by omega
    have hj1 : (j : Int) < (y.Beyond.length : Int) := by omega
    obtain ⟨b, off, eA, hb, hcell⟩ := is_cell (HBI.out wr (btr HB.out hBr)) hlt
    obtain ⟨t, ht⟩ : ∃ t, y.Beyond.getD j 0 = t := ⟨_, rfl⟩
    rw [ht] at hcell
    have hs := byF_step y.Cum a hlt
    rw [hk, ht] at hs
    subst eA
    have HBr := hidH hBr
    by_cases hv : wB t = true
    · have hwt := wB_is hv
      have HGP := hidH (fun (W : World) => (l1Gap_any y.Cum t W HWC.out.1 HWC.out.2 hwt.1 hwt.2).mono (fun e w' h => And.intro h.1 (show w' = W from h.2.symm)))
      rw [← gapV_yes HWC.out hwt] at HGP
      obtain ⟨d, hd⟩ : ∃ d, gapV y.Cum t = d := ⟨_, rfl⟩
      rw [hd] at hs HGP
      have HS := hidH hs
      clear hs ht hd hk hBr hwt
      by_cases h2 : 16 < d
      · have HE := hidH (show byF y.Cum 1 y.Beyond = 1 by rw [HS.out, hv, if_pos rfl, if_neg (by omega)])
        have HE2 := hidH (show rvF y = 1 by rw [HBZ.out (by rw [HE.out]; decide), HE.out])
        clear HS HE
        go_wp2_with (first | (go_at_call 37; refine (word32_any _ _).mono ?_; rintro e w' ⟨rfl, rfl⟩))
        go_quiet ((go_at_call 38; exact Calls.quiet_of_same (HGP.out _)))
        go_wp2
        go_ret
        exact ⟨ret_int HE2.out.symm, below_drewN (btr HB.out HBr.out) _⟩
      · by_cases h1 : d ≤ a
        · have HE := hidH (show byF y.Cum 1 y.Beyond = 1 by rw [HS.out, hv, if_pos rfl, if_pos (by omega), if_neg (by omega)])
          have HE2 := hidH (show rvF y = 1 by rw [HBZ.out (by rw [HE.out]; decide), HE.out])
          clear HS HE
          go_wp2_with (first | (go_at_call 37; refine (word32_any _ _).mono ?_; rintro e w' ⟨rfl, rfl⟩))
          go_quiet ((go_at_call 38; exact Calls.quiet_of_same (HGP.out _)))
          go_wp2
          go_ret
          exact ⟨ret_int HE2.out.symm, below_drewN (btr HB.out HBr.out) _⟩
        · have HE := hidH (show byF y.Cum d (y.Beyond.drop (j + 1)) = byF y.Cum 1 y.Beyond by rw [HS.out, hv, if_pos rfl, if_pos (by omega), if_pos (by omega)])
          clear HS
          go_wp2_with (first | (go_at_call 37; refine (word32_any _ _).mono ?_; rintro e w' ⟨rfl, rfl⟩))
          go_quiet ((go_at_call 38; exact Calls.quiet_of_same (HGP.out _)))
          go_wp2
          go_roundw
          case rel => exact ⟨j + 1, d, by omega, rfl, by go_num, below_drewN HBr.out _, HE.out⟩
          case measure => simp [intOf]; omega
    · have hv : wB t = false := by simpa using hv
      have HE := hidH (show byF y.Cum 1 y.Beyond = 3 by rw [hs, hv]; rfl)
      have HE2 := hidH (show rvF y = 3 by rw [HBZ.out (by rw [HE.out]; decide), HE.out])
      clear hs ht hk hBr
      go_wp2_with (first | (go_at_call 37; refine (word32_any _ _).mono ?_; rintro e w' ⟨rfl, rfl⟩))
      go_ret
      exact ⟨ret_int HE2.out.symm, btr HB.out HBr.out⟩
theorem rv_spec (y : RecvM) (vs : List Value) (u : World) (h : RdA u y.vs vs) (_ : WfA y.vs) (_ : tot.totL y.vs ≤ 1048576) : Calls Try.prog 15 #[.agg vs.toArray] u (IntR (rvF y) u) := rvFw_spec y vs u h
end Go.Proofs.Ytncnibkojneejaa
