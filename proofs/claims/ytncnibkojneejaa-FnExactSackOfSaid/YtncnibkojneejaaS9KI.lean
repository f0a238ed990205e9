/- Chapter 9: SackOf. (WRITTEN BY tools/sack9.py) -/
import Derived.Test.YtncnibkojneejaaS9K
import Derived.Test.YtncnibkojneejaaS9N
namespace Go.Proofs.Ytncnibkojneejaa
open Go.RowKit Go.Deep

set_option maxRecDepth 100000 in
set_option maxHeartbeats 4000000 in
theorem so_spec (y : RecvM) (vs : List Value) (u : World) (h : RdA u y.vs vs) (_ : WfA y.vs) (_ : tot.totL y.vs ≤ 1048576) : Calls Try.prog 11 #[.agg vs.toArray] u (Res u (skR y).vs) := by
  obtain ⟨A1, c1, A2, c2, A3, c3, rfl, hI, _, _, _, _, _⟩ := recv_sh h
  have K1 := (Blk.new u 27 #[.int .i64 y.Cum, .slice A1 y.Beyond.length c1, .slice A2 y.Pieces.length c2, .slice A3 y.Next.length c3]).alloc (.cells #[.int .i64 0, .int .i64 0, .slice none 0 0] 33)
  have R1 := Blk.new (u.alloc (.cells #[.int .i64 y.Cum, .slice A1 y.Beyond.length c1, .slice A2 y.Pieces.length c2, .slice A3 y.Next.length c3] 27)) 33 #[.int .i64 0, .int .i64 0, .slice none 0 0]
  have B1 := bal (bal (Below.refl u.heap.size u) (.cells #[.int .i64 y.Cum, .slice A1 y.Beyond.length c1, .slice A2 y.Pieces.length c2, .slice A3 y.Next.length c3] 27)) (.cells #[.int .i64 0, .int .i64 0, .slice none 0 0] 33)
  rw [World.size_alloc] at R1
  obtain ⟨w1, hw1⟩ : ∃ w1, (u.alloc (.cells #[.int .i64 y.Cum, .slice A1 y.Beyond.length c1, .slice A2 y.Pieces.length c2, .slice A3 y.Next.length c3] 27)).alloc (.cells #[.int .i64 0, .int .i64 0, .slice none 0 0] 33) = w1 := ⟨_, rfl⟩
  rw [hw1] at K1 R1 B1
  have hlt := K1.lt
  have M1 : RdL w1 y.vs u.heap.size 0 := RdL.of_cells (RdA.below B1 h) (fun k hk => by rw [Nat.zero_add, K1.cell]; exact arr_get _ k)
  have HW1 := hidH hw1
  have HM := hidH M1
  have HB := hidH B1
  have HR := hidH R1
  have HK := hidH K1
  have HRV := hidH (rvFw_spec y _ w1 (RdA.below B1 h))
  have HI := hidH (is_below hI B1)
  clear hw1 h K1 R1 B1 M1 hI
  go_enter Try.func11, Try.ntmps11
  go_wp2_with fail
  rw [HW1.out]
  refine HRV.out.mono ?_
  rintro e w3 ⟨rfl, b3⟩
  have HM3 := hidH (RdL.below b3 _ hlt HM.out)
  have HB3 := hidH (btr HB.out b3)
  have HR3 := hidH (HR.out.below b3)
  have HK3 := hidH (HK.out.below b3)
  have HI3 := hidH (is_below HI.out b3)
  have hlt3 := Nat.lt_of_lt_of_le hlt b3.size
  clear HM HB HR HK HI b3 HW1 hlt HRV
  by_cases hz : rvF y = 0
  case neg =>
    have hne : (rvF y != 0) = true := by rw [bne_iff_ne]; exact hz
    have HZ := hidH (skR_no hz)
    obtain ⟨F, hF⟩ : ∃ F, rvF y = F := ⟨_, rfl⟩
    rw [hF] at hne HZ ⊢
    have R4 := HR3.out
    have x0 := R4.cell 0
    have x1 := R4.cell 1
    have x2 := R4.cell 2
    simp only [List.getElem?_toArray, List.getElem?_cons_succ, List.getElem?_cons_zero] at x0 x1 x2
    have f0 := R4.frozen 0
    have f1 := R4.frozen 1
    have f2 := R4.frozen 2
    have hr := R4.lt
    clear R4 hz hF HM3
    go_wp2
    exact bodyPost_ret (v := .agg #[.int .i64 F, .int .i64 0, .slice none 0 0]) (by simp [results, Try.results11, go_sem, x0, x1, x2]) rfl ⟨_, rfl, by
      rw [HZ.out]
      exact (OwN.int F (OwN.int 0 (OwN.nost9 (OwN.nil (Nat.le_refl _))))), bst (bst (bst HB3.out (Nat.le_succ _) _) (Nat.le_succ _) _) (Nat.le_succ _) _⟩
  have hne : (rvF y != 0) = false := by rw [bne_eq_false_iff_eq]; exact hz
  have HZ := hidH (skR_ok hz)
  have HV := hidH (rv_beyond hz)
  have HC := hidH (l9Sack_any u.heap.size 0 y w3 HM3.out HV.out.1 HV.out.2.1 HV.out.2.2)
  rw [hz]
  clear hz HM3 hlt3 HI3 HK3
  go_wp2_with fail
  refine HC.out.mono ?_
  rintro e w4 ⟨vs, rfl, O4, b4⟩
  obtain ⟨A9, c9, rfl⟩ := shape_Sack O4.rd
  have R4 := HR3.out.below b4
  have hr3 := HR3.out.lt
  have x0 := R4.cell 0
  have x1 := R4.cell 1
  have x2 := R4.cell 2
  have f0 := R4.frozen 0
  have f1 := R4.frozen 1
  have f2 := R4.frozen 2
  simp only [List.getElem?_toArray, List.getElem?_cons_succ, List.getElem?_cons_zero] at x0 x1 x2
  have hr := R4.lt
  have HO := hidH O4
  have HB4 := hidH (btr HB3.out b4)
  clear R4 O4 b4 HC
  go_wp2
  have PF : ∀ a b c' : Value, OwN u.heap.size (((w4.setCell ⟨u.heap.size + 1, 0, none⟩ a).setCell ⟨u.heap.size + 1, 1, none⟩ b).setCell ⟨u.heap.size + 1, 2, none⟩ c').heap.size (((w4.setCell ⟨u.heap.size + 1, 0, none⟩ a).setCell ⟨u.heap.size + 1, 1, none⟩ b).setCell ⟨u.heap.size + 1, 2, none⟩ c') _ _ := fun a b c' =>
    OwN.int 0 ((((HO.out.win (set_win _ (u.heap.size + 1) 0 a) (.inr (by omega))).win (set_win _ (u.heap.size + 1) 1 b) (.inr (by omega))).win (set_win _ (u.heap.size + 1) 2 c') (.inr (by omega))).mono (by omega) (by simp [World.setCell]) (Nat.le_refl _))
  exact bodyPost_ret (v := .agg #[.int .i64 0, .int .i64 y.Cum, .slice A9 (gq y.Cum y.Beyond).length c9]) (by simp [results, Try.results11, go_sem, x0, x1, x2]) rfl ⟨_, rfl, by
    rw [HZ.out]
    exact PF _ _ _, bst (bst (bst HB4.out (Nat.le_succ _) _) (Nat.le_succ _) _) (Nat.le_succ _) _⟩
set_option maxRecDepth 100000 in
set_option maxHeartbeats 8000000 in
theorem so_impl (y : RecvM) (vs : List Value) (u : World) (h : RdA u y.vs vs) (_ : WfA y.vs) (_ : tot.totL y.vs ≤ 1048576) : Calls Try.prog 10 #[.agg vs.toArray] u (Res u (skR y).vs) := by
  obtain ⟨A1, c1, A2, c2, A3, c3, rfl, hI, _, _, _, _, _⟩ := recv_sh h
  have K1 := (Blk.new u 27 #[.int .i64 y.Cum, .slice A1 y.Beyond.length c1, .slice A2 y.Pieces.length c2, .slice A3 y.Next.length c3]).alloc (.cells #[.int .i64 0, .int .i64 0, .slice none 0 0] 33)
  have R1 := Blk.new (u.alloc (.cells #[.int .i64 y.Cum, .slice A1 y.Beyond.length c1, .slice A2 y.Pieces.length c2, .slice A3 y.Next.length c3] 27)) 33 #[.int .i64 0, .int .i64 0, .slice none 0 0]
  have B1 := bal (bal (Below.refl u.heap.size u) (.cells #[.int .i64 y.Cum, .slice A1 y.Beyond.length c1, .slice A2 y.Pieces.length c2, .slice A3 y.Next.length c3] 27)) (.cells #[.int .i64 0, .int .i64 0, .slice none 0 0] 33)
  rw [World.size_alloc] at R1
  obtain ⟨w1, hw1⟩ : ∃ w1, (u.alloc (.cells #[.int .i64 y.Cum, .slice A1 y.Beyond.length c1, .slice A2 y.Pieces.length c2, .slice A3 y.Next.length c3] 27)).alloc (.cells #[.int .i64 0, .int .i64 0, .slice none 0 0] 33) = w1 := ⟨_, rfl⟩
  rw [hw1] at K1 R1 B1
  have hlt := K1.lt
  have M1 : RdL w1 y.vs u.heap.size 0 := RdL.of_cells (RdA.below B1 h) (fun k hk => by rw [Nat.zero_add, K1.cell]; exact arr_get _ k)
  have HW1 := hidH hw1
  have HM := hidH M1
  have HB := hidH B1
  have HR := hidH R1
  have HK := hidH K1
  have HRV := hidH (rvFw_impl y _ w1 (RdA.below B1 h))
  have HI := hidH (is_below hI B1)
  clear hw1 h K1 R1 B1 M1 hI
  go_enter Try.func10, Try.ntmps10
  go_wp2_with fail
  rw [HW1.out]
  refine HRV.out.mono ?_
  rintro e w3 ⟨rfl, b3⟩
  have HM3 := hidH (RdL.below b3 _ hlt HM.out)
  have HB3 := hidH (btr HB.out b3)
  have HR3 := hidH (HR.out.below b3)
  have HK3 := hidH (HK.out.below b3)
  have HI3 := hidH (is_below HI.out b3)
  have hlt3 := Nat.lt_of_lt_of_le hlt b3.size
  clear HM HB HR HK HI b3 HW1 hlt HRV
  by_cases hz : rvF y = 0
  case neg =>
    have hne : (rvF y != 0) = true := by rw [bne_iff_ne]; exact hz
    have HZ := hidH (skR_no hz)
    obtain ⟨F, hF⟩ : ∃ F, rvF y = F := ⟨_, rfl⟩
    rw [hF] at hne HZ ⊢
    have R4 := HR3.out
    have x0 := R4.cell 0
    have x1 := R4.cell 1
    have x2 := R4.cell 2
    simp only [List.getElem?_toArray, List.getElem?_cons_succ, List.getElem?_cons_zero] at x0 x1 x2
    have f0 := R4.frozen 0
    have f1 := R4.frozen 1
    have f2 := R4.frozen 2
    have hr := R4.lt
    clear R4 hz hF HM3
    go_wp2
    exact bodyPost_ret (v := .agg #[.int .i64 F, .int .i64 0, .slice none 0 0]) (by simp [results, Try.results10, go_sem, x0, x1, x2]) rfl ⟨_, rfl, by
      rw [HZ.out]
      exact (OwN.int F (OwN.int 0 (OwN.nost9 (OwN.nil (Nat.le_refl _))))), bst (bst (bst HB3.out (Nat.le_succ _) _) (Nat.le_succ _) _) (Nat.le_succ _) _⟩
  have hne : (rvF y != 0) = false := by rw [bne_eq_false_iff_eq]; exact hz
  have HZ := hidH (skR_ok hz)
  have HV := hidH (rv_beyond hz)
  rw [hz]
  have hlm : (y.Beyond.length : Int) ≤ 1000 := by have := HV.out.2.2; omega
  have KS := Blk.new w3 31 #[.int .i64 y.Cum, .slice none 0 0]
  have B4 := bal (Below.refl w3.heap.size w3) (.cells #[.int .i64 y.Cum, .slice none 0 0] 31)
  obtain ⟨ww, hww⟩ : ∃ W, w3.alloc (.cells #[.int .i64 y.Cum, .slice none 0 0] 31) = W := ⟨_, rfl⟩
  rw [hww] at KS B4
  have hr3 := HR3.out.lt
  have r0 := HK3.out.cell 0
  have r1 := HK3.out.cell 1
  simp only [List.getElem?_toArray, List.getElem?_cons_succ, List.getElem?_cons_zero] at r0 r1
  have HWW := hidH hww
  obtain ⟨gs, hgs⟩ : ∃ g, w3.heap.size = g := ⟨_, rfl⟩
  have hlt3w := hlt3
  rw [hgs] at KS hlt3 hr3
  have HGS := hidH hgs
  have HG0 := hidH (show GI ww gs y.Cum [] (.slice none 0 0) ww from ⟨KS, World.ownsRow_nil _ _ _ _, Below.refl _ _⟩)
  have HKW := hidH (HK3.out.below B4)
  have HRW := hidH (HR3.out.below B4)
  have HIW := hidH (is_below HI3.out B4)
  have HLI := hidH (fun (b off : Nat) (e : A1 = some ⟨b, off, none⟩) (hp : 0 < y.Beyond.length) => show b < gs from by
    obtain ⟨b2, o2, e2, hb2, _⟩ := is_cell HI3.out hp
    rw [e] at e2; injection e2 with e2; injection e2 with e2 _
    rw [← HGS.out, e2]; exact hb2)
  have HBW := hidH (btr HB3.out B4)
  clear hww hgs KS B4 hz HM3 HI3 HR3
  go_wp2_with fail
  rw [HWW.out, HGS.out]
  clear r0 r1 HWW HK3 hlt3w
  go_loopw [21] (fun i wr => ∃ (j : Nat) (v : Value), j ≤ y.Beyond.length ∧ i = .int .i64 j ∧ GI ww gs y.Cum (gq y.Cum (y.Beyond.take j)) v wr) (fun i _ => y.Beyond.length - (intOf i).toNat)
  case atStart => exact ⟨0, _, by omega, rfl, HG0.out⟩
  case round =>
    obtain ⟨j, v, hj, rfl, hG⟩ := hrel
    have KR : Blk wr u.heap.size 27 _ := (hG.bel.block u.heap.size hlt3).trans HKW.out
    have r0 := KR.cell 0
    have r1 := KR.cell 1
    have r2 := KR.cell 2
    have r3 := KR.cell 3
    simp only [List.getElem?_toArray, List.getElem?_cons_succ, List.getElem?_cons_zero] at r0 r1 r2 r3
    have rl := KR.lt
    clear KR
    by_cases hlt : j < y.Beyond.length
    case neg =>
      obtain rfl : j = y.Beyond.length := by omega
      rw [List.take_length] at hG
      have HF := hidH hG
      obtain ⟨A0, c0, e0⟩ := hG.sh
      subst e0
      have b0 := hG.box.cell 0
      have b1 := hG.box.cell 1
      have ZB : Blk wr (u.heap.size + 1) 33 _ := (hG.bel.block (u.heap.size + 1) hr3).trans HRW.out
      have x0 := ZB.cell 0
      have x1 := ZB.cell 1
      have x2 := ZB.cell 2
      have f0 := ZB.frozen 0
      have f1 := ZB.frozen 1
      have f2 := ZB.frozen 2
      have zl := ZB.lt
      have bl := hG.box.lt
      simp only [List.getElem?_toArray, List.getElem?_cons_succ, List.getElem?_cons_zero] at b0 b1 x0 x1 x2
      clear hG hlt hj ZB
      go_wp2
      have OW : ∀ a b c' : Value, OwN u.heap.size (((wr.setCell ⟨u.heap.size + 1, 0, none⟩ a).setCell ⟨u.heap.size + 1, 1, none⟩ b).setCell ⟨u.heap.size + 1, 2, none⟩ c').heap.size (((wr.setCell ⟨u.heap.size + 1, 0, none⟩ a).setCell ⟨u.heap.size + 1, 1, none⟩ b).setCell ⟨u.heap.size + 1, 2, none⟩ c') [.int 0, .int y.Cum, st_Gap (gq y.Cum y.Beyond)] [.int .i64 0, .int .i64 y.Cum, .slice A0 (gq y.Cum y.Beyond).length c0] := fun a b c' =>
        OwN.int _ (OwN.int _ (OwN.cons (C := (((wr.setCell ⟨u.heap.size + 1, 0, none⟩ a).setCell ⟨u.heap.size + 1, 1, none⟩ b).setCell ⟨u.heap.size + 1, 2, none⟩ c').heap.size) ((((HF.out.own.win (set_win _ (u.heap.size + 1) 0 a) (.inr (by omega))).win (set_win _ (u.heap.size + 1) 1 b) (.inr (by omega))).win (set_win _ (u.heap.size + 1) 2 c') (.inr (by omega))).mono (by omega) (by simp [World.setCell]) (Nat.le_refl _)) (OwN.nil (Nat.le_refl _)) (by simp [World.setCell]; omega) (Nat.le_refl _)))
      exact bodyPost_ret (v := .agg #[.int .i64 0, .int .i64 y.Cum, .slice A0 (gq y.Cum y.Beyond).length c0]) (by simp [results, Try.results10, go_sem, x0, x1, x2]) rfl ⟨_, rfl, by
        rw [HZ.out]
        exact OW _ _ _, bst (bst (bst (HBW.out.trans (HF.out.bel.mono (by omega))) (Nat.le_succ _) _) (Nat.le_succ _) _) (Nat.le_succ _) _⟩
    have hj0 : (0 : Int) ≤ (j : Int) := by omega
    have hj1 : (j : Int) < (y.Beyond.length : Int) := by omega
    obtain ⟨b, off, eA, _, hcell⟩ := is_cell HIW.out hlt
    have hbg := HLI.out b off eA (by omega)
    subst eA
    replace hcell := (hG.cel (p := ⟨b, off + j, none⟩) hbg).trans hcell
    have HQS := hidH (gq_succ y.Cum hlt)
    obtain ⟨t, ht⟩ : ∃ t, y.Beyond.getD j 0 = t := ⟨_, rfl⟩
    rw [ht] at hcell HQS
    have HDI := hidH (dist_impl y.Cum (some ⟨b, off, none⟩) A2 A3 y.Beyond.length y.Pieces.length y.Next.length c1 c2 c3 t wr)
    have hdr := gapV_rng y.Cum t
    obtain ⟨d, hd⟩ : ∃ d, gapV y.Cum t = d := ⟨_, rfl⟩
    rw [hd] at HDI HQS hdr
    have hd0 := hdr.1
    have hd1 := hdr.2
    have hgo := gq_ok y.Cum y.Beyond j hj
    obtain ⟨q, hq⟩ : ∃ q, gq y.Cum (y.Beyond.take j) = q := ⟨_, rfl⟩
    rw [hq] at hgo hG HQS
    have HGOK := hidH hgo.1
    have HGL := hidH (show q.length ≤ 16 by have := HV.out.2.2; omega)
    have HG := hidH hG
    clear ht hd hdr hgo hq hG
    go_wp2_with fail
    refine HDI.out.mono ?_
    rintro e w5 ⟨rfl, b5⟩
    replace HG := hidH (HG.out.below b5)
    clear b5 r0 r1 r2 r3 rl hcell HDI
    have HGI := HG.out
    rcases snoc q with hq0 | ⟨p, x, hq0⟩
    · subst hq0
      obtain ⟨A0, c0, e0⟩ := HGI.sh
      subst e0
      have b0 := HGI.box.cell 0
      have b1 := HGI.box.cell 1
      simp only [List.getElem?_toArray, List.getElem?_cons_succ, List.getElem?_cons_zero, List.length_nil] at b0 b1
      have bl := HGI.box.lt
      have bf := HGI.box.frozen 1
      have HN := hidH (show gq y.Cum (y.Beyond.take (j + 1)) = [⟨d, d⟩] by rw [HQS.out, gst_nil])
      clear HGI
      have KQ := hidH (Blk.new w5 36 #[.int .i64 d, .int .i64 d])
      have HG2 := hidH (HG.out.below (bal (Below.refl _ _) (.cells #[.int .i64 d, .int .i64 d] 36)))
      have HR := hidH (show (w5.alloc (.cells #[.int .i64 d, .int .i64 d] 36)).ownsRow (gs + 1) 36 2 (.slice A0 0 c0) 0 (gcs []) from HG2.out.row)
      go_wp2_with (at_builtin; go_loud (refine wpList_append_Gap rfl _ _ rfl (gs + 1) _ 0 _ rfl HR.out w5.heap.size _ d d rfl KQ.out (by have := HGL.out; first | omega | (simp at this ⊢; omega)) (by have := HG2.out.box.lt; omega) ?_))
      intro v2 w2 o2 hg2
      obtain ⟨K2, G2⟩ := HG2.out.app d (by simpa using o2) hg2
      obtain ⟨A9, c9, e9⟩ := own_lenT o2
      subst e9
      have HGN := hidH G2
      have y0 := K2.cell 0
      have y1 := K2.cell 1
      have f1 := K2.frozen 1
      have kl := K2.lt
      simp only [List.getElem?_toArray, List.getElem?_cons_succ, List.getElem?_cons_zero] at y0 y1
      clear o2 hg2 K2 G2 KQ HG2 HR
      go_wp2
      go_roundw
      case rel => exact ⟨j + 1, _, by omega, by go_num, by rw [HN.out]; exact HGN.out⟩
      case measure => simp [intOf]; omega
    · subst hq0
      obtain ⟨gr, c0, e0, hgr, hlr, cto, fto⟩ := HGI.last
      subst e0
      have b0 := HGI.box.cell 0
      have b1 := HGI.box.cell 1
      simp only [List.getElem?_toArray, List.getElem?_cons_succ, List.getElem?_cons_zero] at b0 b1
      have bl := HGI.box.lt
      have bf := HGI.box.frozen 1
      have hx := HGOK.out x (by simp)
      have hx0 := hx.2.1
      have hx1 := hx.2.2
      have hpl : (p.length : Int) ≤ 1000 := by have := HGL.out; simp at this; omega
      have hp0 : (0 : Int) ≤ (p.length : Int) := by omega
      have hp1 : (p.length : Int) < (p.length : Int) + 1 := by omega
      have hp2 : (0 : Int) < (p.length : Int) + 1 := by omega
      have hne : gr ≠ gs := by omega
      obtain ⟨tt, htt⟩ : ∃ z, x.To = z := ⟨_, rfl⟩
      rw [htt] at cto hx0 hx1
      clear HGI hx
      by_cases e : tt + 1 = d
      · have e1 : (tt == d - 1) = true := by rw [beq_iff_eq]; omega
        have HN := hidH (show gq y.Cum (y.Beyond.take (j + 1)) = p ++ [⟨x.From, d⟩] by rw [HQS.out, gst_yes _ _ _ (by rw [htt]; exact e)])
        have HP := hidH (HG.out.put hgr d)
        clear e htt
        go_wp2
        go_roundw
        case rel => exact ⟨j + 1, _, by omega, by go_num, by rw [HN.out]; exact HP.out⟩
        case measure => simp [intOf]; omega
      · have e1 : (tt == d - 1) = false := by rw [beq_eq_false_iff_ne]; omega
        have HN := hidH (show gq y.Cum (y.Beyond.take (j + 1)) = p ++ [x] ++ [⟨d, d⟩] by rw [HQS.out, gst_no _ _ _ (by rw [htt]; exact e)])
        clear e htt
        have KQ := hidH (Blk.new w5 36 #[.int .i64 d, .int .i64 d])
        have HG2 := hidH (HG.out.below (bal (Below.refl _ _) (.cells #[.int .i64 d, .int .i64 d] 36)))
        have HR := hidH (show (w5.alloc (.cells #[.int .i64 d, .int .i64 d] 36)).ownsRow (gs + 1) 36 2 (.slice (some ⟨gr, 0, none⟩) (p.length + 1) c0) (p.length + 1) (gcs (p ++ [x])) from by
          have h := HG2.out.row
          rwa [show (p ++ [x]).length = p.length + 1 by simp] at h)
        go_wp2_with (at_builtin; go_loud (refine wpList_append_Gap rfl _ _ rfl (gs + 1) _ (p.length + 1) _ rfl HR.out w5.heap.size _ d d rfl KQ.out (by have := HGL.out; first | omega | (simp at this ⊢; omega)) (by have := HG2.out.box.lt; omega) ?_))
        intro v2 w2 o2 hg2
        obtain ⟨K2, G2⟩ := HG2.out.app d (by simpa using o2) hg2
        obtain ⟨A9, c9, e9⟩ := own_lenT o2
        subst e9
        have HGN := hidH G2
        have y0 := K2.cell 0
        have y1 := K2.cell 1
        have f1 := K2.frozen 1
        have kl := K2.lt
        simp only [List.getElem?_toArray, List.getElem?_cons_succ, List.getElem?_cons_zero] at y0 y1
        clear o2 hg2 K2 G2 KQ HG2 HR
        go_wp2
        go_roundw
        case rel => exact ⟨j + 1, _, by omega, by go_num, by rw [HN.out]; exact HGN.out⟩
        case measure => simp [intOf]; omega
end Go.Proofs.Ytncnibkojneejaa
