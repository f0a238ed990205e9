/- Chapter 10: the model's SendFault. (WRITTEN BY tools/sd10.py) -/
import Derived.Test.YthljdikcpdokdaaS10F
import Derived.Test.YthljdikcpdokdaaNb1
namespace Go.Proofs.Ythljdikcpdokdaa
open Go.RowKit Go.Deep

set_option maxRecDepth 100000 in
set_option maxHeartbeats 8000000 in
theorem sdw_spec (y : SendM) (vs : List Value) (u : World) (h : RdA u y.vs vs) : Calls Try.prog 23 #[.agg vs.toArray] u (IntR (sdF y) u) := by
  obtain ⟨A2, c2, A3, c3, rfl, hN, hP, hm2, hm3, _⟩ := send_sh h
  have HP := hidH (fun (W : World) (hW : Below u.heap.size u W) => Rd.below hW _ hP)
  have HNI := hidH (fun (W : World) (hW : Below u.heap.size u W) => is_below hN hW)
  obtain ⟨w1, hw1⟩ : ∃ W, u.alloc (.cells #[.int .i64 y.Next, .int .i64 y.Acked, .slice A2 y.Seqs.length c2, .slice A3 y.Items.length c3] 47) = W := ⟨_, rfl⟩
  have KB := Blk.new u 47 #[.int .i64 y.Next, .int .i64 y.Acked, .slice A2 y.Seqs.length c2, .slice A3 y.Items.length c3]
  have B1 := bal (Below.refl u.heap.size u) (.cells #[.int .i64 y.Next, .int .i64 y.Acked, .slice A2 y.Seqs.length c2, .slice A3 y.Items.length c3] 47)
  rw [hw1] at KB B1
  have H1 := hidH hw1
  have HB := hidH B1
  have HK := hidH KB
  clear h hN hP hw1 B1 KB
  by_cases k1 : wB y.Next = true
  case neg =>
    have k1 : wB y.Next = false := by simpa using k1
    have HE := hidH (sdF_range (y := y) (by rw [k1]; rfl))
    go_enter Try.func23, Try.ntmps23
    go_wp2_with (first | (go_at_call 82; refine (word32_any _ _).mono ?_; rintro e w' ⟨rfl, rfl⟩))
    go_ret
    exact ⟨ret_int HE.out.symm, by rw [H1.out]; exact HB.out⟩
  by_cases k2 : wB y.Acked = true
  case neg =>
    have k2 : wB y.Acked = false := by simpa using k2
    have HE := hidH (sdF_range (y := y) (by rw [k1, k2]; rfl))
    go_enter Try.func23, Try.ntmps23
    go_wp2_with (first | (go_at_call 82; refine (word32_any _ _).mono ?_; rintro e w' ⟨rfl, rfl⟩))
    go_ret
    exact ⟨ret_int HE.out.symm, by rw [H1.out]; exact HB.out⟩
  have k12 : (wB y.Next && wB y.Acked) = true := by rw [k1, k2]; rfl
  by_cases n1 : 40 < y.Items.length
  · have HE := hidH (sdF_many k12 (sdN_i n1))
    have n1' : (40 : Int) < (y.Items.length : Int) := by omega
    clear n1 k12
    go_enter Try.func23, Try.ntmps23
    go_wp2_with (first | (go_at_call 82; refine (word32_any _ _).mono ?_; rintro e w' ⟨rfl, rfl⟩))
    go_ret
    exact ⟨ret_int HE.out.symm, by rw [H1.out]; exact HB.out⟩
  have n1' : ¬ (40 : Int) < (y.Items.length : Int) := by omega
  by_cases n3 : y.Seqs.length = 10
  case neg =>
    have HE := hidH (sdF_many k12 (sdN_s n3))
    have n3' : ((y.Seqs.length : Int) != 10) = true := by rw [bne_iff_ne]; omega
    clear n3 n1 k12
    go_enter Try.func23, Try.ntmps23
    go_wp2_with (first | (go_at_call 82; refine (word32_any _ _).mono ?_; rintro e w' ⟨rfl, rfl⟩))
    go_ret
    exact ⟨ret_int HE.out.symm, by rw [H1.out]; exact HB.out⟩
  have n3' : ((y.Seqs.length : Int) != 10) = false := by rw [bne_eq_false_iff_eq]; omega
  have HY := hidH (sdN_y n1 n3)
  have HK1 := hidH k12
  have HN3 := hidH n3
  have HWN := hidH (wB_is k1)
  have HWA := hidH (wB_is k2)
  have HGN := hidH (fun (W : World) => (l1Gap_any y.Acked y.Next W HWA.out.1 HWA.out.2 HWN.out.1 HWN.out.2).mono (fun e w' h => And.intro h.1 (show W = w' from h.2)))
  rw [← gapV_yes HWA.out HWN.out] at HGN
  have hr := gapV_rng y.Acked y.Next
  have HFM := hidH (fun g => sdF_form HK1.out HY.out (y := y) g)
  have HFI := hidH (fun g z => sdF_it HK1.out HY.out (y := y) g z)
  have HFN := hidH (fun g z => sdF_nx HK1.out HY.out (y := y) g z)
  obtain ⟨en, hen⟩ : ∃ en, gapV y.Acked y.Next = en := ⟨_, rfl⟩
  rw [hen] at HGN hr HFM HFI HFN
  clear n1 n3 k12 hen
  by_cases e1 : inB en 1 1000 = true
  case neg =>
    have e1 : inB en 1 1000 = false := by simpa using e1
    have HE := hidH (HFM.out e1)
    go_enter Try.func23, Try.ntmps23
    go_wp2_with (first | (go_at_call 82; refine (word32_any _ _).mono ?_; rintro e w' ⟨rfl, rfl⟩) | (go_at_call 83; refine (HGN.out _).mono ?_; rintro e w' ⟨rfl, rfl⟩) | (go_at_call 84; refine (in_any _ _ _ _).mono ?_; rintro e w' ⟨rfl, rfl⟩))
    go_ret
    exact ⟨ret_int HE.out.symm, by rw [H1.out]; exact HB.out⟩
  replace HFI := hidH (HFI.out e1)
  replace HFN := hidH (HFN.out e1)
  have HF0 := hidH (show itF y.Acked en 0 (y.Items.drop 0) = itF y.Acked en 0 y.Items by simp)
  obtain ⟨F, hF⟩ : ∃ F, itF y.Acked en 0 y.Items = F := ⟨_, rfl⟩
  rw [hF] at HF0 HFI HFN
  have HST := hidH (fun (a : Int) {j : Nat} (hj : j < y.Items.length) => itF_step y.Acked en a hj)
  clear hF HFM
  go_enter Try.func23, Try.ntmps23
  go_wp2_with (first | (go_at_call 82; refine (word32_any _ _).mono ?_; rintro e w' ⟨rfl, rfl⟩) | (go_at_call 83; refine (HGN.out _).mono ?_; rintro e w' ⟨rfl, rfl⟩) | (go_at_call 84; refine (in_any _ _ _ _).mono ?_; rintro e w' ⟨rfl, rfl⟩))
  rw [H1.out]
  clear e1 hr
  go_loopw [4, 5] (fun p i wr => ∃ (j : Nat) (a : Int), j ≤ y.Items.length ∧ p = .int .i64 a ∧ i = .int .i64 j ∧ Below w1.heap.size w1 wr ∧ itF y.Acked en a (y.Items.drop j) = F) (fun _ i _ => y.Items.length - (intOf i).toNat)
  case atStart => exact ⟨0, 0, by omega, rfl, rfl, Below.refl _ _, HF0.out⟩
  case round =>
    obtain ⟨j, a, hj, rfl, rfl, hBr, hk⟩ := hrel
    have KR := HK.out.below hBr
    have r0 := KR.cell 0
    have r1 := KR.cell 1
    have r2 := KR.cell 2
    have r3 := KR.cell 3
    simp only [List.getElem?_toArray, List.getElem?_cons_succ, List.getElem?_cons_zero] at r0 r1 r2 r3
    have rl := KR.lt
    clear KR
    by_cases hlt : j < y.Items.length
    case neg =>
      obtain rfl : j = y.Items.length := by omega
      have hz : F = 0 := by rw [← hk, List.drop_length]; rfl
      have HE := hidH (HFN.out hz)
      have HBr := hidH hBr
      clear hk hlt hj hBr hz
      go_wp2
      go_loopw [9] (fun i wr => ∃ j : Nat, j ≤ y.Seqs.length ∧ i = .int .i64 j ∧ Below w1.heap.size w1 wr ∧ nxF (y.Seqs.drop j) = nxF y.Seqs) (fun i _ => y.Seqs.length - (intOf i).toNat)
      case atStart => exact ⟨0, by omega, rfl, HBr.out, rfl⟩
      case round =>
        obtain ⟨j, hj, rfl, hBr, hk⟩ := hrel
        clear r0 r1 r2 r3 rl
        have KR := HK.out.below hBr
        have r0 := KR.cell 0
        have r1 := KR.cell 1
        have r2 := KR.cell 2
        have r3 := KR.cell 3
        simp only [List.getElem?_toArray, List.getElem?_cons_succ, List.getElem?_cons_zero] at r0 r1 r2 r3
        have rl := KR.lt
        clear KR
        by_cases hlt : j < y.Seqs.length
        · have hj0 : (0 : Int) ≤ (j : Int) := by omega
          have hj1 : (j : Int) < (y.Seqs.length : Int) := by omega
          obtain ⟨b, off, eA, hb, hcell⟩ := is_at10 (HNI.out wr (btr HB.out hBr)) hlt
          have hs := nxF_step hlt
          obtain ⟨t, ht⟩ : ∃ t, y.Seqs.getD j 0 = t := ⟨_, rfl⟩
          rw [hk, ht] at hs
          rw [ht] at hcell
          subst eA
          have HS := hidH hs
          have HBr := hidH hBr
          clear hs ht hk hBr
          by_cases hv : inB t 0 65535 = true
          · have HX := hidH (show nxF (y.Seqs.drop (j + 1)) = nxF y.Seqs by rw [HS.out, hv, if_pos rfl])
            go_wp2_with (first | (go_at_call 84; refine (in_any _ _ _ _).mono ?_; rintro e w' ⟨rfl, rfl⟩))
            go_roundw
            case rel => exact ⟨j + 1, by omega, by go_num, HBr.out, HX.out⟩
            case measure => simp [intOf]; omega
          · have hv : inB t 0 65535 = false := by simpa using hv
            have HX := hidH (show sdF y = 3 by rw [HE.out, HS.out, hv]; rfl)
            go_wp2_with (first | (go_at_call 84; refine (in_any _ _ _ _).mono ?_; rintro e w' ⟨rfl, rfl⟩))
            go_ret
            exact ⟨ret_int HX.out.symm, btr HB.out HBr.out⟩
        · obtain rfl : j = y.Seqs.length := by omega
          have HX := hidH (show sdF y = 0 by rw [HE.out, ← hk, List.drop_length]; rfl)
          have HBr := hidH hBr
          clear hk hlt hj hBr
          go_wp2
          go_ret
          exact ⟨ret_int HX.out.symm, btr HB.out HBr.out⟩
    have hj0 : (0 : Int) ≤ (j : Int) := by omega
    have hj1 : (j : Int) < (y.Items.length : Int) := by omega
    obtain ⟨g, o, c, eA, hg, E⟩ := el_Item (HP.out wr (btr HB.out hBr)) hlt
    injection eA with eA _ eC
    subst eC
    have hs := HST.out a hlt
    rw [hk] at hs
    obtain ⟨x, hx⟩ : ∃ x, y.Items[j] = x := ⟨_, rfl⟩
    rw [hx] at E hs
    obtain ⟨A, cA, d0, d1, d2, d3, d4, d5, d6, d7, d8, hb⟩ := mem_SendItem E
    subst eA
    have BW := bal (Below.refl wr.heap.size wr) (.cells #[.int .i64 x.Data_Tsn, .int .i64 x.Data_Stream, .int .i64 x.Data_Seq, .bool x.Data_First, .bool x.Data_Last, .bool x.Data_Unordered, .slice A x.Data_Piece.length cA, .int .i64 x.Sent, .int .i64 x.Due] 121)
    have KG0 := Blk.new wr 121 #[.int .i64 x.Data_Tsn, .int .i64 x.Data_Stream, .int .i64 x.Data_Seq, .bool x.Data_First, .bool x.Data_Last, .bool x.Data_Unordered, .slice A x.Data_Piece.length cA, .int .i64 x.Sent, .int .i64 x.Due]
    have HF := hidH (pdF_any wr.heap.size 0 x.d _ (RdL.d (RdL.blk (rd_i (Rd.below BW _ hb)) KG0)))
    have KG := hidH KG0
    have KR := hidH ((HK.out.below hBr).below BW)
    have HBW := hidH (btr hBr BW)
    have HS := hidH hs
    clear hs hx hk BW hBr KG0 E hb
    go_wp2_with fail
    refine HF.out.mono ?_
    rintro e w3 ⟨rfl, b3⟩
    have HB3 := hidH (btr HBW.out b3)
    replace KG := hidH (KG.out.below b3)
    replace KR := hidH (KR.out.below b3)
    clear b3 HF HBW d0 d1 d2 d3 d4 d5 d6 d7 d8 r0 r1 r2 r3 rl
    have HPD := hidH (@siF_pd x)
    have HOK := hidH (@siF_ok x)
    by_cases hz : pdF x.d = 0
    case neg =>
      have hz2 : (pdF x.d != 0) = true := by rw [bne_iff_ne]; exact hz
      have hsi := HPD.out hz
      have hF : F = pdF x.d := by rw [HS.out, hsi, if_neg hz]
      have HE := hidH (show sdF y = pdF x.d by rw [HFI.out (by rw [hF]; exact hz), hF])
      obtain ⟨f, hf⟩ : ∃ f, pdF x.d = f := ⟨_, rfl⟩
      rw [hf] at hz2 HE ⊢
      clear hz HS hf hsi hF HPD HOK
      go_wp2
      go_ret
      exact ⟨ret_int HE.out.symm, btr HB.out HB3.out⟩
    have HTW := hidH (show IsW x.Data_Tsn from wB_is (pdF_tsn hz))
    replace HOK := hidH (HOK.out hz)
    rw [hz]
    have g0 := KG.out.cell 0
    have g7 := KG.out.cell 7
    have g8 := KG.out.cell 8
    simp only [List.getElem?_toArray, List.getElem?_cons_succ, List.getElem?_cons_zero] at g0 g7 g8
    have gl := KG.out.lt
    clear hz HPD
    by_cases s1 : inB x.Sent 0 99 = true
    case neg =>
      have s1 : inB x.Sent 0 99 = false := by simpa using s1
      have hsi : siF x = 3 := by rw [HOK.out, s1]; rfl
      have hF : F = 3 := by rw [HS.out, hsi]; rfl
      have HE := hidH (show sdF y = 3 by rw [HFI.out (by rw [hF]; decide), hF])
      clear hsi hF HS HOK
      go_wp2_with (first | (go_at_call 84; refine (in_any _ _ _ _).mono ?_; rintro e w' ⟨rfl, rfl⟩))
      go_ret
      exact ⟨ret_int HE.out.symm, btr HB.out HB3.out⟩
    by_cases s2 : inB x.Due 0 1000000000 = true
    case neg =>
      have s2 : inB x.Due 0 1000000000 = false := by simpa using s2
      have hsi : siF x = 3 := by rw [HOK.out, s1, s2]; rfl
      have hF : F = 3 := by rw [HS.out, hsi]; rfl
      have HE := hidH (show sdF y = 3 by rw [HFI.out (by rw [hF]; decide), hF])
      clear hsi hF HS HOK
      go_wp2_with (first | (go_at_call 84; refine (in_any _ _ _ _).mono ?_; rintro e w' ⟨rfl, rfl⟩))
      go_ret
      exact ⟨ret_int HE.out.symm, btr HB.out HB3.out⟩
    have HS2 := hidH (show F = if a < gapV y.Acked x.Data_Tsn ∧ gapV y.Acked x.Data_Tsn < en then itF y.Acked en (gapV y.Acked x.Data_Tsn) (y.Items.drop (j + 1)) else 1 by
      have hsi : siF x = 0 := by rw [HOK.out, s1, s2]; rfl
      rw [HS.out, if_pos hsi])
    have HGT := hidH (fun (W : World) => (l1Gap_any y.Acked x.Data_Tsn W HWA.out.1 HWA.out.2 HTW.out.1 HTW.out.2).mono (fun e w' h => And.intro h.1 (show W = w' from h.2)))
    rw [← gapV_yes HWA.out HTW.out] at HGT
    obtain ⟨d, hd⟩ : ∃ d, gapV y.Acked x.Data_Tsn = d := ⟨_, rfl⟩
    rw [hd] at HS2 HGT
    have r0 := KR.out.cell 0
    have r1 := KR.out.cell 1
    have r2 := KR.out.cell 2
    have r3 := KR.out.cell 3
    simp only [List.getElem?_toArray, List.getElem?_cons_succ, List.getElem?_cons_zero] at r0 r1 r2 r3
    have rl := KR.out.lt
    clear HS HOK hd
    by_cases h1 : d ≤ a
    · have hF : F = 1 := by rw [HS2.out, if_neg (by omega)]
      have HE := hidH (show sdF y = 1 by rw [HFI.out (by rw [hF]; decide), hF])
      clear hF HS2
      go_wp2_with (first | (go_at_call 84; refine (in_any _ _ _ _).mono ?_; rintro e w' ⟨rfl, rfl⟩) | (go_at_call 83; refine (HGT.out _).mono ?_; rintro e w' ⟨rfl, rfl⟩))
      go_ret
      exact ⟨ret_int HE.out.symm, btr HB.out HB3.out⟩
    by_cases h2 : d < en
    · have HE := hidH (show itF y.Acked en d (y.Items.drop (j + 1)) = F by rw [HS2.out, if_pos ⟨by omega, h2⟩])
      clear HS2
      go_wp2_with (first | (go_at_call 84; refine (in_any _ _ _ _).mono ?_; rintro e w' ⟨rfl, rfl⟩) | (go_at_call 83; refine (HGT.out _).mono ?_; rintro e w' ⟨rfl, rfl⟩))
      go_roundw
      case rel => exact ⟨j + 1, d, by omega, rfl, by go_num, HB3.out, HE.out⟩
      case measure => simp [intOf]; omega
    · have hF : F = 1 := by rw [HS2.out, if_neg (by omega)]
      have HE := hidH (show sdF y = 1 by rw [HFI.out (by rw [hF]; decide), hF])
      clear hF HS2
      go_wp2_with (first | (go_at_call 84; refine (in_any _ _ _ _).mono ?_; rintro e w' ⟨rfl, rfl⟩) | (go_at_call 83; refine (HGT.out _).mono ?_; rintro e w' ⟨rfl, rfl⟩))
      go_ret
      exact ⟨ret_int HE.out.symm, btr HB.out HB3.out⟩
theorem sd_spec (y : SendM) (vs : List Value) (u : World) (h : RdA u y.vs vs) (_ : WfA y.vs) (_ : tot.totL y.vs ≤ 1048576) : Calls Try.prog 23 #[.agg vs.toArray] u (IntR (sdF y) u) := sdw_spec y vs u h
end Go.Proofs.Ythljdikcpdokdaa
