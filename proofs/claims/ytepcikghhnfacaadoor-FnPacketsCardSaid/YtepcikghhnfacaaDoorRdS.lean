/- The model's l4Read. -/
import Derived.Test.YtepcikghhnfacaaDoorRdR
namespace Go.Proofs.YtepcikghhnfacaaDoor
open Go.RowKit Go.Deep

theorem set_size (w : World) (p : Addr) (v : Value) : (w.setCell p v).heap.size = w.heap.size := by simp [World.setCell]
theorem getD_drop (D : List Int) (k j : Nat) : (D.drop k).getD j 0 = D.getD (k + j) 0 := by
  simp [List.getD_eq_getElem?_getD]
/-- What stands at a place of the bytes. -/
structure ChAt (D : List Int) (at_ m : Nat) (body : List Int) : Prop where
  pv : pairV (D.drop at_) = (m : Int) + 4
  fits : at_ + (m + 4) ≤ D.length
  len : body.length = m
  head : rdHead (D.drop at_) = ⟨D.getD at_ 0, D.getD (at_ + 1) 0, body⟩
  body_at : ∀ j, j < body.length → D.getD (at_ + 4 + j) 0 = body.getD j 0
theorem chAt_of {D : List Int} {at_ : Nat} (h4 : at_ + 4 ≤ D.length) (h : ¬ (pairV (D.drop at_) < 4 ∨ ((D.drop at_).length : Int) < pairV (D.drop at_))) : ∃ m body, ChAt D at_ m body := by
  have hl : (D.drop at_).length = D.length - at_ := List.length_drop
  have h0 : 4 ≤ pairV (D.drop at_) := by omega
  have h1 : pairV (D.drop at_) ≤ ((D.length - at_ : Nat) : Int) := by omega
  refine ⟨(pairV (D.drop at_)).toNat - 4, ((D.drop at_).drop 4).take ((pairV (D.drop at_)).toNat - 4), by omega, by omega, ?_, ?_, fun j hj => ?_⟩
  · rw [List.length_take, List.length_drop, hl]; omega
  · rw [rdHead, getD_drop, getD_drop]; simp
  · rw [List.length_take, List.length_drop, hl] at hj
    rw [List.getD_eq_getElem?_getD, List.getD_eq_getElem?_getD, List.getElem?_take_of_lt (by omega), List.getElem?_drop, List.getElem?_drop]
    congr 2
    omega
theorem mRead_step {D : List Int} {at_ m : Nat} {body : List Int} (h : ChAt D at_ m body) : mRead (D.drop at_) = ⟨D.getD at_ 0, D.getD (at_ + 1) 0, body⟩ :: mRead (D.drop (at_ + (m + 4 + 3) / 4 * 4)) := by
  have hl : (D.drop at_).length = D.length - at_ := List.length_drop
  have hp := h.pv
  have hf := h.fits
  rw [mRead_go (by omega) (by omega), h.head, List.drop_drop, hp]
  congr 3
set_option maxRecDepth 100000 in
set_option maxHeartbeats 4000000 in
theorem l4Read_any (A : Option Addr) (D : List Int) (c : Nat) (w : World) (hA : Bs w A D) (hD : Bytes D) (h8 : 8 ≤ D.length) (hm : D.length ≤ 700) (hc : D.length ≤ c) (hcm : (c : Int) ≤ 9223372036854775807) :
    Calls Tryd.prog 48 #[.slice A D.length c] w fun e w' => ∃ P c', e = .returned (pkV (atW D 0) P (mRead (D.drop 8)).length c') ∧ OCs w.heap.size w'.heap.size w' P (mRead (D.drop 8)) ∧ Below w.heap.size w w' := by
  rcases hA with rfl | ⟨b, off, rfl, hb, hA⟩
  · simp at h8
  · have hmI : (D.length : Int) ≤ 700 := by omega
    have HAT := hidH hA
    have HD := hidH hD
    have a0 := hA 0 (by omega)
    have a1 := hA 1 (by omega)
    have a2 := hA 2 (by omega)
    have a3 := hA 3 (by omega)
    obtain ⟨w1, hw1⟩ : ∃ w1, w.alloc (.cells #[.int .i64 0, .slice none 0 0] 26) = w1 := ⟨_, rfl⟩
    have B1 := bal (Below.refl w.heap.size w) (.cells #[.int .i64 0, .slice none 0 0] 26)
    have K1 := Blk.new w 26 #[.int .i64 0, .slice none 0 0]
    have hs1 : w1.heap.size = w.heap.size + 1 := by rw [← hw1]; simp
    rw [hw1] at B1 K1
    have b0 := (B1.cell (p := ⟨b, off + 0, none⟩) hb).trans a0
    have b1 := (B1.cell (p := ⟨b, off + 1, none⟩) hb).trans a1
    have b2 := (B1.cell (p := ⟨b, off + 2, none⟩) hb).trans a2
    have b3 := (B1.cell (p := ⟨b, off + 3, none⟩) hb).trans a3
    have HAt := hidH (l1At_any b off D.length c 0 _ _ _ _ w1 (by omega) (by omega) b0 b1 b2 b3 (hD.get _).1 (hD.get _).2 (hD.get _).1 (hD.get _).2 (hD.get _).1 (hD.get _).2 (hD.get _).1 (hD.get _).2)
    have HTG := hidH (show atW D 0 = D.getD 0 0 * 16777216 + D.getD 1 0 * 65536 + D.getD 2 0 * 256 + D.getD 3 0 from rfl)
    obtain ⟨tag, htag⟩ : ∃ tag, D.getD 0 0 * 16777216 + D.getD 1 0 * 65536 + D.getD 2 0 * 256 + D.getD 3 0 = tag := ⟨_, rfl⟩
    rw [htag] at HTG HAt
    have HB1 := hidH B1
    have HK1 := hidH K1
    have HW1 := hidH hw1
    have HS1 := hidH hs1
    have HBW := hidH hb
    have HC := hidH (And.intro hc hcm)
    have H8 := hidH h8
    unfold pkV
    clear a0 a1 a2 a3 b0 b1 b2 b3 B1 K1 hw1 hs1 hA hD htag hm h8 hc hcm
    go_enter Tryd.func48, Tryd.ntmps48
    go_wp2_with fail
    rw [HW1.out]
    refine HAt.out.mono ?_
    rintro e w2' ⟨rfl, dn, rfl⟩
    have B2 := below_drewN (Below.refl w1.heap.size w1) dn
    have hgs : (w1.drewN dn).heap.size = w1.heap.size := by simp
    obtain ⟨w2, hw2⟩ : ∃ w2, w1.drewN dn = w2 := ⟨_, rfl⟩
    rw [hw2] at B2 hgs ⊢
    have HB2 := hidH B2
    have HGS := hidH hgs
    clear HAt HW1 B2 hgs hw2
    go_wp2_with fail
    have K3 := Blk.new w2 26 #[.int .i64 tag, .slice none 0 0]
    have B3 := bal HB2.out (.cells #[.int .i64 tag, .slice none 0 0] 26)
    have hs3 : (w2.alloc (.cells #[.int .i64 tag, .slice none 0 0] 26)).heap.size = w2.heap.size + 1 := by simp
    obtain ⟨w3, hw3⟩ : ∃ w3, w2.alloc (.cells #[.int .i64 tag, .slice none 0 0] 26) = w3 := ⟨_, rfl⟩
    rw [hw3] at K3 B3 hs3
    have HW3 := hidH hw3
    have HK3 := hidH K3
    have HB3 := hidH B3
    have HS3 := hidH hs3
    have HG0 := hidH (Gr.nil (B := w2.heap.size + 1) (w := w3) (by omega))
    clear K3 B3 hw3 hs3 HB2
    try rw [HW3.out]
    go_loopw [4] (fun a wr => ∃ (at_ : Nat) (v : Value) (cs : List Chk) (T : Nat), a = .int .i64 (at_ : Int) ∧ 8 ≤ at_ ∧ cs.length ≤ at_ ∧ at_ ≤ D.length + 4 ∧ mRead (D.drop 8) = cs ++ mRead (D.drop at_) ∧ Blk wr w2.heap.size 26 #[.int .i64 tag, v] ∧ Gr (w2.heap.size + 1) T wr v cs ∧ Below w1.heap.size w1 wr ∧ w2.heap.size + 1 ≤ T) (fun a _ => D.length + 8 - (intOf a).toNat)
    case atStart => exact ⟨8, _, [], _, rfl, by omega, by simp, by have := H8.out; omega, by simp, HK3.out, HG0.out, HB3.out, Nat.le_refl _⟩
    case round =>
      clear HW3 HK3 HB3 HS3 HG0
      obtain ⟨at_, v, cs, T, rfl, ha8, hcl, hal, hR, hK, hG, hB, hsz⟩ := hrel
      obtain ⟨P, n, c', rfl⟩ := hG.sliceN
      have haI : (at_ : Int) ≤ 800 := by omega
      by_cases h4 : at_ + 4 ≤ D.length
      · have h4I : (at_ : Int) + 4 ≤ (D.length : Int) := by omega
        have p2 := (btr HB1.out hB).cell (p := ⟨b, off + (at_ + 2), none⟩) HBW.out |>.trans (HAT.out (at_ + 2) (by omega))
        have p3 := (btr HB1.out hB).cell (p := ⟨b, off + (at_ + 2 + 1), none⟩) HBW.out |>.trans (HAT.out (at_ + 2 + 1) (by omega))
        have HP := hidH (l1PairAt_any b off D.length c (at_ + 2) _ _ wr (by omega) (by omega) p2 p3 (HD.out.get _).1 (HD.out.get _).2 (HD.out.get _).1 (HD.out.get _).2)
        have hpv : pairV (D.drop at_) = D.getD (at_ + 2) 0 * 256 + D.getD (at_ + 2 + 1) 0 := by rw [pairV, getD_drop, getD_drop]
        rw [← hpv, show ((at_ + 2 : Nat) : Int) = (at_ : Int) + 2 from rfl] at HP
        have hlen : ((D.drop at_).length : Int) = (D.length : Int) - (at_ : Int) := by rw [List.length_drop]; omega
        have hpz : 0 ≤ pairV (D.drop at_) ∧ pairV (D.drop at_) ≤ 65535 := by
          have q2 := HD.out.get (at_ + 2)
          have q3 := HD.out.get (at_ + 2 + 1)
          omega
        have HB := hidH hB
        have HK := hidH hK
        have HG := hidH hG
        have HR := hidH hR
        by_cases hbad : pairV (D.drop at_) < 4 ∨ ((D.drop at_).length : Int) < pairV (D.drop at_)
        · have HE := hidH (mRead_stop (d := D.drop at_) (by omega) hbad)
          obtain ⟨pv, hpv2⟩ : ∃ pv, pairV (D.drop at_) = pv := ⟨_, rfl⟩
          rw [hpv2] at HP hbad hpz
          rw [hlen] at hbad
          have hor : pv < 4 ∨ (4 ≤ pv ∧ (D.length : Int) < (at_ : Int) + pv) := by omega
          have Kp := hK
          clear p2 p3 hpv hlen hB hK hG hR hbad hpv2
          obtain ⟨hp0, hp1⟩ := hpz
          rcases hor with hlow | ⟨hge, hhi⟩
          · skip
            go_wp2_with fail
            refine HP.out.mono ?_
            rintro e w4 ⟨rfl, dm, rfl⟩
            have KX := Kp.below (below_drewN (Below.refl _ _) dm)
            have RX := HK1.out.below (below_drewN HB.out dm)
            have GX := HG.out.below (below_drewN (Below.refl _ _) dm)
            have BX := btr HB1.out (below_drewN HB.out dm)
            have EX : mRead (D.drop 8) = cs := by rw [HR.out, HE.out, List.append_nil]
            clear HP Kp
            have K4 := KX
            have x0 := K4.cell 0
            have x1 := K4.cell 1
            simp only [List.getElem?_toArray, List.getElem?_cons_succ, List.getElem?_cons_zero] at x0 x1
            have R4 := RX
            have f0 := R4.frozen 0
            have f1 := R4.frozen 1
            obtain ⟨y0, y1, yz⟩ := R4.two
            have xlt := K4.lt
            have HL := hidH GX.len
            have HO := hidH GX.ocs
            have BW := hidH BX
            have HEQ := hidH EX
            have HRL := hidH (show w.heap.size + 1 = w2.heap.size from HS1.out.symm.trans HGS.out.symm)
            clear KX RX GX BX EX K4 R4
            go_wp2
            exact bodyPost_ret (v := .agg #[.int .i64 tag, .slice P n c']) (by simp [results, Tryd.results48, go_sem, y0, y1]) rfl ⟨P, c', by rw [HTG.out, HEQ.out, HL.out], by rw [HEQ.out]; simp only [set_size]; exact ((HO.out.win (win_set _ w.heap.size 0 (.int .i64 tag)) (.inr (by have := HRL.out; omega))).win (win_set _ w.heap.size 1 (.slice P n c')) (.inr (by have := HRL.out; omega))).mono (by have := HRL.out; omega), bst (bst BW.out (Nat.le_refl _) _) (Nat.le_refl _) _⟩
          · skip
            go_wp2_with fail
            refine HP.out.mono ?_
            rintro e w4 ⟨rfl, dm, rfl⟩
            have KX := Kp.below (below_drewN (Below.refl _ _) dm)
            have RX := HK1.out.below (below_drewN HB.out dm)
            have GX := HG.out.below (below_drewN (Below.refl _ _) dm)
            have BX := btr HB1.out (below_drewN HB.out dm)
            have EX : mRead (D.drop 8) = cs := by rw [HR.out, HE.out, List.append_nil]
            clear HP Kp
            have K4 := KX
            have x0 := K4.cell 0
            have x1 := K4.cell 1
            simp only [List.getElem?_toArray, List.getElem?_cons_succ, List.getElem?_cons_zero] at x0 x1
            have R4 := RX
            have f0 := R4.frozen 0
            have f1 := R4.frozen 1
            obtain ⟨y0, y1, yz⟩ := R4.two
            have xlt := K4.lt
            have HL := hidH GX.len
            have HO := hidH GX.ocs
            have BW := hidH BX
            have HEQ := hidH EX
            have HRL := hidH (show w.heap.size + 1 = w2.heap.size from HS1.out.symm.trans HGS.out.symm)
            clear KX RX GX BX EX K4 R4
            go_wp2
            exact bodyPost_ret (v := .agg #[.int .i64 tag, .slice P n c']) (by simp [results, Tryd.results48, go_sem, y0, y1]) rfl ⟨P, c', by rw [HTG.out, HEQ.out, HL.out], by rw [HEQ.out]; simp only [set_size]; exact ((HO.out.win (win_set _ w.heap.size 0 (.int .i64 tag)) (.inr (by have := HRL.out; omega))).win (win_set _ w.heap.size 1 (.slice P n c')) (.inr (by have := HRL.out; omega))).mono (by have := HRL.out; omega), bst (bst BW.out (Nat.le_refl _) _) (Nat.le_refl _) _⟩
        · obtain ⟨m, body, CA⟩ := chAt_of h4 hbad
          have hpm := CA.pv
          rw [hpm] at HP
          have hfit := CA.fits
          have hbl := CA.len
          have hBD : Bs w (some ⟨b, off, none⟩) D := .inr ⟨b, off, rfl, HBW.out, HAT.out⟩
          have HSB := hidH (cutA_bs (i := at_ + 4) (c := c) (m := body) hBD (by omega) HC.out.1 CA.body_at)
          have HSL := hidH (fun u : World => by have h := cut_lh (some ⟨b, off, none⟩) D.length c (at_ + 4) body.length ((at_ : Int) + ((m : Int) + 4)) (by omega) (by have := HC.out.1; omega) u; exact h)
          have e0 := (HB1.out.cell (p := ⟨b, off + at_, none⟩) HBW.out).trans (HAT.out at_ (by omega))
          have e1 := (HB1.out.cell (p := ⟨b, off + (at_ + 1), none⟩) HBW.out).trans (HAT.out (at_ + 1) (by omega))
          have HEE := hidH (And.intro e0 e1)
          have HST := hidH (mRead_step CA)
          have hkb := HD.out.get at_
          have hfb := HD.out.get (at_ + 1)
          have HKF := hidH (And.intro hkb hfb)
          have hmI2 : (m : Int) ≤ 700 := by omega
          have hge4 : ¬ ((m : Int) + 4 < 4) := by omega
          have hfit2 : (at_ : Int) + ((m : Int) + 4) ≤ (D.length : Int) := by omega
          have HBLN := hidH (And.intro hbl (show body.length ≤ 1000 by omega))
          obtain ⟨k0, hk0⟩ : ∃ k0, D.getD at_ 0 = k0 := ⟨_, rfl⟩
          obtain ⟨f0, hf0⟩ : ∃ f0, D.getD (at_ + 1) 0 = f0 := ⟨_, rfl⟩
          rw [hk0, hf0] at HEE HST HKF
          obtain ⟨A4, hA4⟩ : ∃ A4, cutA (some ⟨b, off, none⟩) (at_ + 4) c = A4 := ⟨_, rfl⟩
          rw [hA4] at HSB HSL
          have HSB1 := hidH (bs_below HSB.out HB1.out)
          have Kp := hidH hK
          have hsz' := hidH hsz
          clear p2 p3 hpv hlen hB hK hG hR hbad CA hpm hfit hbl hBD e0 e1 hkb hfb hk0 hf0 hA4 hpz h4 hsz
          go_wp2_with fail
          refine HP.out.mono ?_
          rintro e w4 ⟨rfl, dm, rfl⟩
          have K4 := hidH (Kp.out.below (below_drewN (Below.refl _ _) dm))
          have G4 := hidH (HG.out.below (below_drewN (Below.refl _ _) dm))
          have B4 := hidH (below_drewN HB.out dm)
          clear HP Kp
          go_wp2_with fail
          refine wp_region_any (by kernel_rfl) ?_
          refine regRd _ _ _ _ _ _ _ _ _ _ _ _ _ _ _ _ _ _ _ _ _ _ _ _ _ _ _ _ _ _ _ _ _ _ _ _ _ _ _ _ _ _ _ _ _ _ _ _ _ _ _ _ _ _ _ _ _ _ w1 b off D.length c w2.heap.size (w2.heap.size + 1) T at_ m k0 f0 tag (.slice P n c') cs A4 (c - (at_ + 4)) body (by omega) (by omega) h4I (by have := HBW.out; have := HS1.out; omega) HEE.out.1 HEE.out.2 HKF.out.1.1 HKF.out.1.2 HKF.out.2.1 HKF.out.2.2 HSB1 HBLN.out.2 (Nat.lt_succ_self _) (by have := HGS.out; omega) (by have := HGS.out; omega) hsz'.out (by omega) HSL.out (by kernel_rfl) (by kernel_rfl) (by kernel_rfl) rfl ⟨(fun h => h), (fun h => h), (fun h => h), (fun h => h), (fun h => h)⟩ (fun _ => K4.out.below (Below.refl _ _).drew) (fun _ => G4.out.below (Below.refl _ _).drew) (btr B4.out (Below.refl _ _).drew) (Nat.le_refl _) G4.out.1 ?_
          intro s30 s31 s32 s33 s34 s35 s36 s37 s38 s39 s40 s41 s42 s43 s44 s45 s46 s47 s48 s49 s50 s51 s52 s53 s54 W hW hX
          obtain ⟨v2, T2, K6, G6, hT2⟩ := hX
          have HX := hidH (And.intro hW (And.intro K6 (And.intro G6 (show w2.heap.size + 1 ≤ T2 from Nat.le_trans hsz'.out (Nat.le_trans G4.out.1 hT2)))))
          have hd3 : ((m : Int) + 4 + 3) / 4 * 4 = (((m + 4 + 3) / 4 * 4 : Nat) : Int) := by omega
          have HD3 := hidH hd3
          clear hW K6 G6 hT2 hd3 B4 G4 K4
          go_wp2
          go_roundw
          case rel => exact ⟨at_ + (m + 4 + 3) / 4 * 4, v2, cs ++ [⟨k0, f0, body⟩], T2, by go_num, by omega, by simp; omega, by omega, by rw [HR.out, HST.out]; simp, HX.out.2.1, HX.out.2.2.1, HX.out.1, HX.out.2.2.2⟩
          case measure => simp [intOf]; omega
      · have h4I : (D.length : Int) < (at_ : Int) + 4 := by omega
        have KX := hK
        have RX := HK1.out.below hB
        have GX := hG
        have BX := btr HB1.out hB
        have EX : mRead (D.drop 8) = cs := by rw [hR, mRead_end (by rw [List.length_drop]; omega), List.append_nil]
        clear hK hG hB hR h4 hsz
        have K4 := KX
        have x0 := K4.cell 0
        have x1 := K4.cell 1
        simp only [List.getElem?_toArray, List.getElem?_cons_succ, List.getElem?_cons_zero] at x0 x1
        have R4 := RX
        have f0 := R4.frozen 0
        have f1 := R4.frozen 1
        obtain ⟨y0, y1, yz⟩ := R4.two
        have xlt := K4.lt
        have HL := hidH GX.len
        have HO := hidH GX.ocs
        have BW := hidH BX
        have HEQ := hidH EX
        have HRL := hidH (show w.heap.size + 1 = w2.heap.size from HS1.out.symm.trans HGS.out.symm)
        clear KX RX GX BX EX K4 R4
        go_wp2
        exact bodyPost_ret (v := .agg #[.int .i64 tag, .slice P n c']) (by simp [results, Tryd.results48, go_sem, y0, y1]) rfl ⟨P, c', by rw [HTG.out, HEQ.out, HL.out], by rw [HEQ.out]; simp only [set_size]; exact ((HO.out.win (win_set _ w.heap.size 0 (.int .i64 tag)) (.inr (by have := HRL.out; omega))).win (win_set _ w.heap.size 1 (.slice P n c')) (.inr (by have := HRL.out; omega))).mono (by have := HRL.out; omega), bst (bst BW.out (Nat.le_refl _) _) (Nat.le_refl _) _⟩
end Go.Proofs.YtepcikghhnfacaaDoor
