/- Chapter 10: the model's l10Sack and TakeSack. (WRITTEN BY tools/sack10.py) -/
import Derived.Test.YthljdikcpdokdaaNb2
import Derived.Test.YthljdikcpdokdaaS10CM
import Derived.Test.YthljdikcpdokdaaS10M
import Derived.Test.YthljdikcpdokdaaS5K
import Derived.BigQuiet
namespace Go.Proofs.Ythljdikcpdokdaa
open Go.RowKit Go.Deep

set_option maxRecDepth 100000 in
set_option maxHeartbeats 8000000 in
theorem l10Sack_any (y : SendM) (k : SackM) (hy : SdOk y) (hk0 : ksF k = 0) (g gk : Nat) (S I : Value) (ks : List (Value × Nat × Nat)) (B0 B : Nat) (w : World) (hb : Blk w g 47 #[.int .i64 y.Next, .int .i64 y.Acked, S, I]) (hI : SZ w B0 B I y.Items ks) (A : Option Addr) (c : Nat) (hkb : Blk w gk 31 #[.int .i64 k.Cum, .slice A k.Gaps.length c]) (hG : Rd w (st_Gap k.Gaps) (.slice A k.Gaps.length c)) :
    Calls Try.prog 79 #[.pointer (some ⟨g, 0, none⟩), .pointer (some ⟨gk, 0, none⟩)] w (SkR y k g S ks w) := by
  obtain ⟨hkc, hkn, hkg⟩ := ksF_zero hk0
  have hlt := lastTo_rng hk0
  have HMEM := hidH (okGaps_mem hkg)
  obtain ⟨AI, cI, rfl⟩ := hI.shape
  have HGN := hidH (fun (W : World) => (l1Gap_any y.Acked y.Next W hy.acked.1 hy.acked.2 hy.next.1 hy.next.2).mono (fun e w' h => And.intro h.1 (show w' = W from h.2.symm)))
  rw [← gapV_yes hy.acked hy.next] at HGN
  have HGC := hidH (fun (W : World) => (l1Gap_any y.Acked k.Cum W hy.acked.1 hy.acked.2 hkc.1 hkc.2).mono (fun e w' h => And.intro h.1 (show w' = W from h.2.symm)))
  rw [← gapV_yes hy.acked hkc] at HGC
  have HGT := hidH (fun (j : Nat) (hj : j < y.Items.length) (W : World) => show Calls Try.prog 83 #[.int .i64 y.Acked, .int .i64 y.Items[j].Data_Tsn] W (fun e w' => e = .returned (.int .i64 (gapV y.Acked y.Items[j].Data_Tsn)) ∧ w' = W) from by
    have hs := siF_zero (itF_mem hy.its _ (List.getElem_mem hj)).1
    have hw : IsW y.Items[j].Data_Tsn := wB_is (pdF_tsn hs.1)
    rw [gapV_yes hy.acked hw]
    exact (l1Gap_any _ _ W hy.acked.1 hy.acked.2 hw.1 hw.2).mono (fun e w' h => ⟨h.1, h.2.symm⟩))
  have hr := gapV_rng y.Acked k.Cum
  have hrn := gapV_rng y.Acked y.Next
  have HI := hidH (fun (W : World) (hW : Below w.heap.size w W) => hI.below hW)
  have HB := hidH (fun (W : World) (hW : Below w.heap.size w W) => hb.below hW)
  have HK := hidH (fun (W : World) (hW : Below w.heap.size w W) => hkb.below hW)
  have HGP := hidH (fun (W : World) (hW : Below w.heap.size w W) => Rd.below hW _ hG)
  have HKS := hidH hI.len
  have HTK := hidH (fun (x : SendItemM) => show tkB y k x = (decide (gapV y.Acked x.Data_Tsn - gapV y.Acked k.Cum < 1) || k.Gaps.any (fun g => inB (gapV y.Acked x.Data_Tsn - gapV y.Acked k.Cum) g.From g.To)) from rfl)
  have hTOP : topV y k = gapV y.Acked k.Cum + lastTo k.Gaps := rfl
  obtain ⟨fr, hfr⟩ : ∃ fr, gapV y.Acked k.Cum = fr := ⟨_, rfl⟩
  obtain ⟨en, hen⟩ : ∃ en, gapV y.Acked y.Next = en := ⟨_, rfl⟩
  rw [hfr] at HGC hr hTOP
  simp only [hfr] at HTK
  rw [hen] at HGN hrn
  have HFR := hidH hfr
  have HEN := hidH hen
  obtain ⟨P, hP⟩ : ∃ P, tkB y k = P := ⟨_, rfl⟩
  simp only [hP] at HTK
  have HPE := hidH hP
  have HTOP := hidH hTOP
  have HNI := hidH hy.items
  have hni : (y.Items.length : Int) ≤ 40 := by have := hy.items; omega
  have hkn2 : (k.Gaps.length : Int) ≤ 20 := by omega
  have b0 := hb.cell 0
  have b1 := hb.cell 1
  have b3 := hb.cell 3
  have k0 := hkb.cell 0
  have k1 := hkb.cell 1
  simp only [List.getElem?_toArray, List.getElem?_cons_succ, List.getElem?_cons_zero] at b0 b1 b3 k0 k1
  have gl := hb.lt
  have gkl := hkb.lt
  have HGKNE := hidH (show gk ≠ g from fun e => by subst e; exact blk_ne hb hkb (by decide))
  clear hb hI hkb hG hy hk0 hkc hkg hfr hen hP hTOP hkn
  go_enter Try.func79, Try.ntmps79
  go_wp2
  go_quiet ((go_at_call 83; exact Calls.quiet_of_same (HGN.out _)))
  revert nq
  intro n1
  go_wp2
  go_quiet ((go_at_call 83; exact (HGC.out _).mono (fun e w' h => ⟨h.1, _, h.2⟩)))
  obtain ⟨wd, hwd⟩ : ∃ W, (w.drewN n1).drewN nq = W := ⟨_, rfl⟩
  have HWD := hidH (show ∃ m, wd = w.drewN m from ⟨_, by rw [← hwd]; first | exact World.drewN_drewN | exact World.drewN_drewN _ _ _⟩)
  have hBD : Below w.heap.size w wd := by obtain ⟨m, hm⟩ := HWD.out; rw [hm]; exact below_drewN (Below.refl _ _) m
  have hwds : wd.heap.size = w.heap.size := by rw [← hwd]; rfl
  rw [hwd]
  have HBD := hidH hBD
  have HWDS := hidH hwds
  clear b0 b1 b3 k0 k1 gl gkl
  have hBx := HB.out wd hBD
  have hKx := HK.out wd hBD
  have b0 := hBx.cell 0
  have b1 := hBx.cell 1
  have b3 := hBx.cell 3
  have k0 := hKx.cell 0
  have k1 := hKx.cell 1
  simp only [List.getElem?_toArray, List.getElem?_cons_succ, List.getElem?_cons_zero] at b0 b1 b3 k0 k1
  have gl := hBx.lt
  have gkl := hKx.lt
  clear hBx hKx hBD hwd hwds
  by_cases h1 : 2147483647 < fr
  · go_wp2
    exact bodyPost_ret (v := .tuple #[.slice none 0 0, .bool true, .int .i64 0]) (by simp [results, Try.results79, go_sem]) rfl (SkR.old (by rw [HFR.out]; exact h1) HWD.out)
  have H1 := hidH h1
  have h1L : fr ≤ 2147483647 := by omega
  obtain ⟨tp, htp⟩ : ∃ tp, topV y k = tp := ⟨_, rfl⟩
  rw [htp] at HTOP
  have HTPE := hidH htp
  have htr : 0 ≤ tp ∧ tp ≤ 2147549182 := by have := HTOP.out; omega
  clear htp
  have HR := hidH hr
  rcases Nat.eq_zero_or_pos k.Gaps.length with hz | hz
  · have htp : fr = tp := by have := HTOP.out; rw [List.length_eq_zero_iff.1 hz] at this; simp [lastTo] at this; exact this.symm
    subst htp
    have hzI : ¬ (0 : Int) < (k.Gaps.length : Int) := by omega
    clear hz HTOP
    by_cases h2 : en ≤ fr
    · go_wp2
      exact bodyPost_ret (v := .tuple #[.slice none 0 0, .bool false, .int .i64 8]) (by simp [results, Try.results79, go_sem]) rfl (SkR.st (by rw [HFR.out]; have := H1.out; omega) (by rw [HEN.out, HTPE.out]; omega) HWD.out)
    have H2 := hidH h2
    have HB2 := hidH (btr HBD.out (bal (bal (Below.refl wd.heap.size wd) (.cells #[] 69)) (.cells #[] 121)))
    have HG0 := hidH (show ((wd.alloc (.cells #[] 69)).alloc (.cells #[] 121)).ownsRow w.heap.size 69 7 (.slice (some ⟨wd.heap.size, 0, none⟩) 0 0) 0 [] from own_below0 (World.ownsRow_lit wd #[] 0 (by have := HWDS.out; omega) (by unfold maxLen; omega) rfl) (bal (Below.refl _ _) _))
    have HL0 := hidH (show ((wd.alloc (.cells #[] 69)).alloc (.cells #[] 121)).ownsRow w.heap.size 121 9 (.slice (some ⟨(wd.alloc (.cells #[] 69)).heap.size, 0, none⟩) 0 0) 0 [] from World.ownsRow_lit (wd.alloc (.cells #[] 69)) #[] 0 (by have := HWDS.out; simp only [World.size_alloc]; omega) (by unfold maxLen; omega) rfl)
    simp only [World.size_alloc] at HL0
    go_wp2
    clear h1 h1L htr hr hrn
    go_loopw [11, 12, 13] (fun vg vl i wr => ∃ (j : Nat) (kl kg : List (Value × Nat × Nat)), j ≤ y.Items.length ∧ i = .int .i64 j ∧ wr.ownsRow w.heap.size 69 7 vg (gnI P y.Items j).length (flatR (RowZ ((gnI P y.Items j).map SendItemM.d) kg)) ∧ wr.ownsRow w.heap.size 121 9 vl (lfI P y.Items j).length (flatF (RowI (lfI P y.Items j) kl)) ∧ LKp P y.Items ks j kl kg ∧ Below w.heap.size w wr) (fun _ _ i _ => y.Items.length - (intOf i).toNat)
    case atStart => exact ⟨0, [], [], by omega, rfl, HG0.out, HL0.out, LKp.start _ _ _, HB2.out⟩
    case round =>
      obtain ⟨j, kl, kg, hj, rfl, hvg, hvl, hp, hBr⟩ := hrel
      obtain ⟨W, hW⟩ : ∃ W, wr = W := ⟨_, rfl⟩
      rw [hW] at hvg hvl hBr ⊢
      clear hW
      obtain ⟨Ag, cg, rfl⟩ := own_lenT hvg
      obtain ⟨Al, cl, rfl⟩ := own_lenT hvl
      clear b0 b1 b3 k0 k1 gl gkl
      have hBx := HB.out W hBr
      have hKx := HK.out W hBr
      have b0 := hBx.cell 0
      have b1 := hBx.cell 1
      have b3 := hBx.cell 3
      have k0 := hKx.cell 0
      have k1 := hKx.cell 1
      simp only [List.getElem?_toArray, List.getElem?_cons_succ, List.getElem?_cons_zero] at b0 b1 b3 k0 k1
      have gl := hBx.lt
      have gkl := hKx.lt
      have bf1 := hBx.frozen 1
      have bf3 := hBx.frozen 3
      clear hBx hKx
      have HVG := hidH hvg
      have HVL := hidH hvl
      have HP := hidH hp
      have HBR := hidH hBr
      clear hvg hvl hp
      by_cases hlt : j < y.Items.length
      case neg =>
        obtain rfl : j = y.Items.length := by omega
        clear hlt hj hBr
        obtain ⟨nl, hnl⟩ : ∃ n, (lfI P y.Items y.Items.length).length = n := ⟨_, rfl⟩
        obtain ⟨ng, hng⟩ : ∃ n, (gnI P y.Items y.Items.length).length = n := ⟨_, rfl⟩
        have HNL := hidH hnl
        have HNG := hidH hng
        rw [hnl] at HVL ⊢
        rw [hng] at HVG ⊢
        clear hnl hng
        go_wp2
        have hBx := HB.out W HBR.out
        have W1 := set_win W g 1 (.int .i64 k.Cum)
        have W3 := set_win (W.setCell ⟨g, 1, none⟩ (.int .i64 k.Cum)) g 3 (.slice Al nl cl)
        have O1 := own_farT (own_farT HVL.out hBx (by decide) 1 (.int .i64 k.Cum)) (hBx.put 1 (.int .i64 k.Cum)) (by decide) 3 (.slice Al nl cl)
        have O2 := own_farT (own_farT HVG.out hBx (by decide) 1 (.int .i64 k.Cum)) (hBx.put 1 (.int .i64 k.Cum)) (by decide) 3 (.slice Al nl cl)
        have e1 := lfI_all P y.Items
        have e2 := gnI_all P y.Items
        have n1 : (y.Items.filter (fun x => !P x)).length = nl := by rw [← e1]; exact HNL.out
        have n2 : (y.Items.filter P).length = ng := by rw [← e2]; exact HNG.out
        rw [e1] at O1
        rw [e2] at O2
        exact bodyPost_ret (v := .tuple #[.slice Ag ng cg, .bool false, .int .i64 0]) (by simp [results, Try.results79, go_sem]) rfl (SkR.ok (P := P) HPE.out (by rw [HFR.out]; have := H1.out; omega) (by rw [HEN.out, HTPE.out]; have := H2.out; omega) ((hBx.put 1 _).put 3 _) (by rw [n1]; exact O1) (by rw [n2]; exact O2) HP.out (((winOfBelow HBR.out).trans W1).trans W3))
      have hj0 : (0 : Int) ≤ (j : Int) := by omega
      have hj1 : (j : Int) < (y.Items.length : Int) := by omega
      obtain ⟨gi, ci, A9, n9, c9, eI, _, hgi, e9, hcell⟩ := (HI.out W hBr).cell9 hlt
      injection eI with eI _ eC
      subst eI eC
      have HPJ := HTK.out y.Items[j]
      have HGJ := hidH (HGT.out j hlt)
      have hrg := gapV_rng y.Acked y.Items[j].Data_Tsn
      obtain ⟨x, hx⟩ : ∃ x, y.Items[j] = x := ⟨_, rfl⟩
      rw [hx] at HPJ HGJ hrg hcell
      have HX := hidH hx
      obtain ⟨kj, hkj, e9⟩ := e9
      have HKJ := hidH hkj
      clear hkj
      obtain ⟨gx, hgx⟩ : ∃ z, gapV y.Acked x.Data_Tsn = z := ⟨_, rfl⟩
      rw [hgx] at HPJ HGJ hrg
      have d0 := hcell 0 _ rfl
      have d1 := hcell 1 _ rfl
      have d2 := hcell 2 _ rfl
      have d3 := hcell 3 _ rfl
      have d4 := hcell 4 _ rfl
      have d5 := hcell 5 _ rfl
      have d6 := hcell 6 _ rfl
      have d7 := hcell 7 _ rfl
      have d8 := hcell 8 _ rfl
      rw [Nat.add_zero] at d0
      have HE9 := hidH e9
      have HPJ := hidH HPJ
      have hr := HR.out
      clear hcell e9 hx hgx hj hBr
      have HW1 := hidH hgi
      go_wp2
      go_quiet ((go_at_call 83; exact Calls.quiet_of_same (HGJ.out _)))
      obtain ⟨b, hbb⟩ : ∃ b, decide (gx - fr < 1) = b := ⟨_, rfl⟩
      have HB0 := hidH hbb
      go_wp2
      go_loopw [15, 16] (fun cm i wi => ∃ (t : Nat) (q : Bool), t ≤ k.Gaps.length ∧ cm = .bool q ∧ i = .int .i64 t ∧ q = (b || (k.Gaps.take t).any (fun g => inB (gx - fr) g.From g.To)) ∧ ∃ m, wi = W.drewN m) (fun _ i _ => k.Gaps.length - (intOf i).toNat)
      case atStart => exact ⟨0, b, by omega, rfl, rfl, by simp, _, rfl⟩
      case round =>
        obtain ⟨t, q, ht, rfl, rfl, hq, hwi⟩ := hrel
        have hbi : Below W.heap.size W wr := by obtain ⟨m, hm⟩ := hwi; rw [hm]; exact below_drewN (Below.refl _ _) m
        have hsi : wr.heap.size = W.heap.size := by obtain ⟨m, hm⟩ := hwi; rw [hm]; rfl
        have HWI := hidH hwi
        have HBI := hidH hbi
        have HSI := hidH hsi
        have kk1 := (hbi.cell (p := ⟨gk, 1, none⟩) gkl).trans k1
        have kk0 := (hbi.cell (p := ⟨gk, 0, none⟩) gkl).trans k0
        have gkl2 := Nat.lt_of_lt_of_le gkl hbi.size
        clear hwi hbi hsi
        by_cases htl : t < k.Gaps.length
        case pos =>
          exfalso
          omega
        obtain rfl : t = k.Gaps.length := by omega
        rw [List.take_length] at hq
        have HPX := hidH (show P x = q by rw [HPJ.out, HB0.out, hq])
        clear hq htl ht hbb
        obtain ⟨wm, hwm⟩ : ∃ W2, wr = W2 := ⟨_, rfl⟩
        rw [hwm] at HWI HBI HSI kk0 kk1 gkl2 ⊢
        have hBm := HBI.out
        have hsm := HSI.out
        clear hwm
        have z0 := (hBm.cell (p := ⟨gi, j * 9, none⟩) HW1.out).trans d0
        have z1 := (hBm.cell (p := ⟨gi, j * 9 + 1, none⟩) HW1.out).trans d1
        have z2 := (hBm.cell (p := ⟨gi, j * 9 + 2, none⟩) HW1.out).trans d2
        have z3 := (hBm.cell (p := ⟨gi, j * 9 + 3, none⟩) HW1.out).trans d3
        have z4 := (hBm.cell (p := ⟨gi, j * 9 + 4, none⟩) HW1.out).trans d4
        have z5 := (hBm.cell (p := ⟨gi, j * 9 + 5, none⟩) HW1.out).trans d5
        have z6 := (hBm.cell (p := ⟨gi, j * 9 + 6, none⟩) HW1.out).trans d6
        have z7 := (hBm.cell (p := ⟨gi, j * 9 + 7, none⟩) HW1.out).trans d7
        have z8 := (hBm.cell (p := ⟨gi, j * 9 + 8, none⟩) HW1.out).trans d8
        have hgim := Nat.lt_of_lt_of_le HW1.out hBm.size
        have c3 := (hBm.cell (p := ⟨g, 3, none⟩) gl).trans b3
        have c0 := (hBm.cell (p := ⟨g, 0, none⟩) gl).trans b0
        have glm := Nat.lt_of_lt_of_le gl hBm.size
        clear d0 d1 d2 d3 d4 d5 d6 d7 d8 b0 b1 b3 k0 k1 gl gkl bf1 bf3
        have HBM := hidH (btr HBR.out hBm)
        have HMS := hidH hsm
        have HVG2 := hidH (own_below0 HVG.out hBm)
        have HVL2 := hidH (own_below0 HVL.out hBm)
        have hnl : (lfI P y.Items j).length ≤ 40 := by have h := HP.out.ll; have := List.length_filter_le (fun x => !P x) (y.Items.take j); have h3 := HNI.out; unfold lfI; rw [List.length_take] at this; omega
        have hng : (gnI P y.Items j).length ≤ 40 := by have := List.length_filter_le P (y.Items.take j); have h3 := HNI.out; unfold gnI; rw [List.length_take] at this; omega
        have HNL := hidH hnl
        have HNG := hidH hng
        have HSW := hidH (show w.heap.size ≤ wm.heap.size from HBM.out.size)
        obtain ⟨nl, hnl2⟩ : ∃ n, (lfI P y.Items j).length = n := ⟨_, rfl⟩
        obtain ⟨ng, hng2⟩ : ∃ n, (gnI P y.Items j).length = n := ⟨_, rfl⟩
        rw [hnl2] at HVL2 HNL ⊢
        rw [hng2] at HVG2 HNG ⊢
        have HNL2 := hidH hnl2
        have HNG2 := hidH hng2
        clear hBm hsm hnl hng hnl2 hng2
        cases q
        · have K1 := Blk.new wm 121 #[.int .i64 x.Data_Tsn, .int .i64 x.Data_Stream, .int .i64 x.Data_Seq, .bool x.Data_First, .bool x.Data_Last, .bool x.Data_Unordered, .slice A9 n9 c9, .int .i64 x.Sent, .int .i64 x.Due]
          have B1 := bal (Below.refl wm.heap.size wm) (.cells #[.int .i64 x.Data_Tsn, .int .i64 x.Data_Stream, .int .i64 x.Data_Seq, .bool x.Data_First, .bool x.Data_Last, .bool x.Data_Unordered, .slice A9 n9 c9, .int .i64 x.Sent, .int .i64 x.Due] 121)
          have HK1 := hidH K1
          have HB1 := hidH (btr HBM.out B1)
          have HG1 := hidH (own_below0 HVG2.out B1)
          have HL1 := hidH (own_below0 HVL2.out B1)
          have HS1 := hidH (Nat.le_trans HSW.out B1.size)
          clear K1 B1
          go_wp2_with (at_builtin; go_loud (refine wpList_append_Si rfl _ _ Try.underlying45 rfl w.heap.size _ nl _ rfl HL1.out wm.heap.size _ x (.slice A9 n9 c9) rfl rfl HK1.out (by have := HNL.out; omega) HS1.out ?_))
          intro v2 w2 o2 hg _
          have BB := HB1.out.grown hg HS1.out (fun kk hk => (own_block HL1.out hk).1)
          have OT := own_otherT HG1.out hg HL1.out (by decide)
          have HBB := hidH BB
          have HOT := hidH OT
          have HO2 := hidH o2
          clear BB OT o2 hg HK1 HB1 HG1 HL1 z0 z1 z2 z3 z4 z5 z6 z7 z8 c0 c3 glm hgim kk0 kk1 gkl2
          go_wp2
          go_roundw
          case rel =>
            have hpx : P y.Items[j] = false := by rw [HX.out]; exact HPX.out
            have hn := HP.out.left hlt HKS.out hpx
            have hkk : (ks[j]'(by rw [HKS.out]; exact hlt)) = kj := by have := HKJ.out; rw [List.getElem?_eq_getElem (by rw [HKS.out]; exact hlt)] at this; injection this
            rw [hkk] at hn
            refine ⟨j + 1, _, _, by omega, by go_num, ?_, ?_, hn, HBB.out⟩
            · rw [gnI_no hlt hpx, HNG2.out]
              exact HOT.out
            · rw [lfI_yes hlt hpx, List.length_append, RowI.snoc HP.out.ll, flatF_app, HNL2.out, HE9.out, HX.out]
              simpa [flatF, siE_cs] using HO2.out
          case measure => simp [intOf]; omega
        · have K1 := Blk.new wm 69 #[.int .i64 x.Data_Tsn, .int .i64 x.Data_Stream, .int .i64 x.Data_Seq, .bool x.Data_First, .bool x.Data_Last, .bool x.Data_Unordered, .slice A9 n9 c9]
          have B1 := bal (Below.refl wm.heap.size wm) (.cells #[.int .i64 x.Data_Tsn, .int .i64 x.Data_Stream, .int .i64 x.Data_Seq, .bool x.Data_First, .bool x.Data_Last, .bool x.Data_Unordered, .slice A9 n9 c9] 69)
          have HK1 := hidH K1
          have HB1 := hidH (btr HBM.out B1)
          have HG1 := hidH (own_below0 HVG2.out B1)
          have HL1 := hidH (own_below0 HVL2.out B1)
          have HS1 := hidH (Nat.le_trans HSW.out B1.size)
          clear K1 B1
          go_wp2_with (at_builtin; go_loud (refine wpList_append_Da rfl _ _ rfl w.heap.size _ ng _ rfl HG1.out wm.heap.size _ x.Data_Tsn x.Data_Stream x.Data_Seq x.Data_First x.Data_Last x.Data_Unordered A9 n9 c9 rfl HK1.out (by have := HNG.out; omega) HS1.out ?_))
          intro v2 w2 o2 hg
          have BB := HB1.out.grown hg HS1.out (fun kk hk => (own_block HG1.out hk).1)
          have OT := own_otherT HL1.out hg HG1.out (by decide)
          have HBB := hidH BB
          have HOT := hidH OT
          have HO2 := hidH o2
          clear BB OT o2 hg HK1 HB1 HG1 HL1 z0 z1 z2 z3 z4 z5 z6 z7 z8 c0 c3 glm hgim kk0 kk1 gkl2
          go_wp2
          go_roundw
          case rel =>
            have hpx : P y.Items[j] = true := by rw [HX.out]; exact HPX.out
            have hn := HP.out.gone hlt HKS.out hpx
            have hkk : (ks[j]'(by rw [HKS.out]; exact hlt)) = kj := by have := HKJ.out; rw [List.getElem?_eq_getElem (by rw [HKS.out]; exact hlt)] at this; injection this
            rw [hkk] at hn
            refine ⟨j + 1, _, _, by omega, by go_num, ?_, ?_, hn, HBB.out⟩
            · rw [gnI_yes hlt hpx, List.length_append, RowZ.snoc1 HP.out.lg, flatR_app, HNG2.out, HE9.out, HX.out]
              exact HO2.out
            · rw [lfI_no hlt hpx, HNL2.out]
              exact HOT.out
          case measure => simp [intOf]; omega
  · obtain ⟨n, hn⟩ : ∃ n, n + 1 = k.Gaps.length := ⟨k.Gaps.length - 1, by omega⟩
    have hzI : (0 : Int) < (k.Gaps.length : Int) := by omega
    have hnl : n < k.Gaps.length := by omega
    have hni2 : ((k.Gaps.length : Int) - 1) = (n : Int) := by omega
    obtain ⟨gg, og, cg2, eG, hgg, g0, g1⟩ := el_Gap (HGP.out wd HBD.out) hnl
    injection eG with eG _ eC
    subst eG eC
    have hn0 : (0 : Int) ≤ (n : Int) := by omega
    have hn1 : (n : Int) < (k.Gaps.length : Int) := by omega
    have htp : fr + (k.Gaps[n]).To = tp := by have := HTOP.out; rw [lastTo_at hn] at this; exact this.symm
    have hto := (HMEM.out _ (List.getElem_mem hnl)).2
    obtain ⟨zt, hzt⟩ : ∃ a, (k.Gaps[n]).To = a := ⟨_, rfl⟩
    rw [hzt] at g1 htp hto
    clear g0 hn hnl hzt hz HTOP
    by_cases h2 : en ≤ tp
    · go_wp2
      exact bodyPost_ret (v := .tuple #[.slice none 0 0, .bool false, .int .i64 8]) (by simp [results, Try.results79, go_sem]) rfl (SkR.st (by rw [HFR.out]; have := H1.out; omega) (by rw [HEN.out, HTPE.out]; omega) HWD.out)
    have H2 := hidH h2
    have HB2 := hidH (btr HBD.out (bal (bal (Below.refl wd.heap.size wd) (.cells #[] 69)) (.cells #[] 121)))
    have HG0 := hidH (show ((wd.alloc (.cells #[] 69)).alloc (.cells #[] 121)).ownsRow w.heap.size 69 7 (.slice (some ⟨wd.heap.size, 0, none⟩) 0 0) 0 [] from own_below0 (World.ownsRow_lit wd #[] 0 (by have := HWDS.out; omega) (by unfold maxLen; omega) rfl) (bal (Below.refl _ _) _))
    have HL0 := hidH (show ((wd.alloc (.cells #[] 69)).alloc (.cells #[] 121)).ownsRow w.heap.size 121 9 (.slice (some ⟨(wd.alloc (.cells #[] 69)).heap.size, 0, none⟩) 0 0) 0 [] from World.ownsRow_lit (wd.alloc (.cells #[] 69)) #[] 0 (by have := HWDS.out; simp only [World.size_alloc]; omega) (by unfold maxLen; omega) rfl)
    simp only [World.size_alloc] at HL0
    go_wp2
    clear h1 h1L htr hr hrn htp hto g1 hgg hn0 hn1 hni2
    go_loopw [11, 12, 13] (fun vg vl i wr => ∃ (j : Nat) (kl kg : List (Value × Nat × Nat)), j ≤ y.Items.length ∧ i = .int .i64 j ∧ wr.ownsRow w.heap.size 69 7 vg (gnI P y.Items j).length (flatR (RowZ ((gnI P y.Items j).map SendItemM.d) kg)) ∧ wr.ownsRow w.heap.size 121 9 vl (lfI P y.Items j).length (flatF (RowI (lfI P y.Items j) kl)) ∧ LKp P y.Items ks j kl kg ∧ Below w.heap.size w wr) (fun _ _ i _ => y.Items.length - (intOf i).toNat)
    case atStart => exact ⟨0, [], [], by omega, rfl, HG0.out, HL0.out, LKp.start _ _ _, HB2.out⟩
    case round =>
      obtain ⟨j, kl, kg, hj, rfl, hvg, hvl, hp, hBr⟩ := hrel
      obtain ⟨W, hW⟩ : ∃ W, wr = W := ⟨_, rfl⟩
      rw [hW] at hvg hvl hBr ⊢
      clear hW
      obtain ⟨Ag, cg, rfl⟩ := own_lenT hvg
      obtain ⟨Al, cl, rfl⟩ := own_lenT hvl
      clear b0 b1 b3 k0 k1 gl gkl
      have hBx := HB.out W hBr
      have hKx := HK.out W hBr
      have b0 := hBx.cell 0
      have b1 := hBx.cell 1
      have b3 := hBx.cell 3
      have k0 := hKx.cell 0
      have k1 := hKx.cell 1
      simp only [List.getElem?_toArray, List.getElem?_cons_succ, List.getElem?_cons_zero] at b0 b1 b3 k0 k1
      have gl := hBx.lt
      have gkl := hKx.lt
      have bf1 := hBx.frozen 1
      have bf3 := hBx.frozen 3
      clear hBx hKx
      have HVG := hidH hvg
      have HVL := hidH hvl
      have HP := hidH hp
      have HBR := hidH hBr
      clear hvg hvl hp
      by_cases hlt : j < y.Items.length
      case neg =>
        obtain rfl : j = y.Items.length := by omega
        clear hlt hj hBr
        obtain ⟨nl, hnl⟩ : ∃ n, (lfI P y.Items y.Items.length).length = n := ⟨_, rfl⟩
        obtain ⟨ng, hng⟩ : ∃ n, (gnI P y.Items y.Items.length).length = n := ⟨_, rfl⟩
        have HNL := hidH hnl
        have HNG := hidH hng
        rw [hnl] at HVL ⊢
        rw [hng] at HVG ⊢
        clear hnl hng
        go_wp2
        have hBx := HB.out W HBR.out
        have W1 := set_win W g 1 (.int .i64 k.Cum)
        have W3 := set_win (W.setCell ⟨g, 1, none⟩ (.int .i64 k.Cum)) g 3 (.slice Al nl cl)
        have O1 := own_farT (own_farT HVL.out hBx (by decide) 1 (.int .i64 k.Cum)) (hBx.put 1 (.int .i64 k.Cum)) (by decide) 3 (.slice Al nl cl)
        have O2 := own_farT (own_farT HVG.out hBx (by decide) 1 (.int .i64 k.Cum)) (hBx.put 1 (.int .i64 k.Cum)) (by decide) 3 (.slice Al nl cl)
        have e1 := lfI_all P y.Items
        have e2 := gnI_all P y.Items
        have n1 : (y.Items.filter (fun x => !P x)).length = nl := by rw [← e1]; exact HNL.out
        have n2 : (y.Items.filter P).length = ng := by rw [← e2]; exact HNG.out
        rw [e1] at O1
        rw [e2] at O2
        exact bodyPost_ret (v := .tuple #[.slice Ag ng cg, .bool false, .int .i64 0]) (by simp [results, Try.results79, go_sem]) rfl (SkR.ok (P := P) HPE.out (by rw [HFR.out]; have := H1.out; omega) (by rw [HEN.out, HTPE.out]; have := H2.out; omega) ((hBx.put 1 _).put 3 _) (by rw [n1]; exact O1) (by rw [n2]; exact O2) HP.out (((winOfBelow HBR.out).trans W1).trans W3))
      have hj0 : (0 : Int) ≤ (j : Int) := by omega
      have hj1 : (j : Int) < (y.Items.length : Int) := by omega
      obtain ⟨gi, ci, A9, n9, c9, eI, _, hgi, e9, hcell⟩ := (HI.out W hBr).cell9 hlt
      injection eI with eI _ eC
      subst eI eC
      have HPJ := HTK.out y.Items[j]
      have HGJ := hidH (HGT.out j hlt)
      have hrg := gapV_rng y.Acked y.Items[j].Data_Tsn
      obtain ⟨x, hx⟩ : ∃ x, y.Items[j] = x := ⟨_, rfl⟩
      rw [hx] at HPJ HGJ hrg hcell
      have HX := hidH hx
      obtain ⟨kj, hkj, e9⟩ := e9
      have HKJ := hidH hkj
      clear hkj
      obtain ⟨gx, hgx⟩ : ∃ z, gapV y.Acked x.Data_Tsn = z := ⟨_, rfl⟩
      rw [hgx] at HPJ HGJ hrg
      have d0 := hcell 0 _ rfl
      have d1 := hcell 1 _ rfl
      have d2 := hcell 2 _ rfl
      have d3 := hcell 3 _ rfl
      have d4 := hcell 4 _ rfl
      have d5 := hcell 5 _ rfl
      have d6 := hcell 6 _ rfl
      have d7 := hcell 7 _ rfl
      have d8 := hcell 8 _ rfl
      rw [Nat.add_zero] at d0
      have HE9 := hidH e9
      have HPJ := hidH HPJ
      have hr := HR.out
      clear hcell e9 hx hgx hj hBr
      have HW1 := hidH hgi
      go_wp2
      go_quiet ((go_at_call 83; exact Calls.quiet_of_same (HGJ.out _)))
      obtain ⟨b, hbb⟩ : ∃ b, decide (gx - fr < 1) = b := ⟨_, rfl⟩
      have HB0 := hidH hbb
      go_wp2
      go_loopw [15, 16] (fun cm i wi => ∃ (t : Nat) (q : Bool), t ≤ k.Gaps.length ∧ cm = .bool q ∧ i = .int .i64 t ∧ q = (b || (k.Gaps.take t).any (fun g => inB (gx - fr) g.From g.To)) ∧ ∃ m, wi = W.drewN m) (fun _ i _ => k.Gaps.length - (intOf i).toNat)
      case atStart => exact ⟨0, b, by omega, rfl, rfl, by simp, _, rfl⟩
      case round =>
        obtain ⟨t, q, ht, rfl, rfl, hq, hwi⟩ := hrel
        have hbi : Below W.heap.size W wr := by obtain ⟨m, hm⟩ := hwi; rw [hm]; exact below_drewN (Below.refl _ _) m
        have hsi : wr.heap.size = W.heap.size := by obtain ⟨m, hm⟩ := hwi; rw [hm]; rfl
        have HWI := hidH hwi
        have HBI := hidH hbi
        have HSI := hidH hsi
        have kk1 := (hbi.cell (p := ⟨gk, 1, none⟩) gkl).trans k1
        have kk0 := (hbi.cell (p := ⟨gk, 0, none⟩) gkl).trans k0
        have gkl2 := Nat.lt_of_lt_of_le gkl hbi.size
        clear hwi hbi hsi
        by_cases htl : t < k.Gaps.length
        case pos =>
          have ht0 : (0 : Int) ≤ (t : Int) := by omega
          have ht1 : (t : Int) < (k.Gaps.length : Int) := by omega
          clear d0 d1 d2 d3 d4 d5 d6 d7 d8 hbb b0 b1 b3 k0 k1 gl gkl bf1 bf3 hrg hr
          have HQ := hidH hq
          clear hq
          go_wp2_with fail
          have hmem := HMEM.out _ (List.getElem_mem htl)
          obtain ⟨gg, og, cg2, eG, hgg, g0, g1⟩ := el_Gap (HGP.out wr (btr HBR.out HBI.out)) htl
          injection eG with eG _ eC
          injection eG with eG
          injection eG with eg eo
          subst eg eo eC
          have hst := any_take (d := gx - fr) htl
          obtain ⟨z, hz⟩ : ∃ z, k.Gaps[t] = z := ⟨_, rfl⟩
          rw [hz] at g0 g1 hst hmem
          obtain ⟨zf, hzf⟩ : ∃ a, z.From = a := ⟨_, rfl⟩
          obtain ⟨zt, hzt⟩ : ∃ a, z.To = a := ⟨_, rfl⟩
          rw [hzf] at g0 hst
          rw [hzt] at g1 hst
          have HST := hidH hst
          clear hz hzf hzt hmem hst
          cases q
          · obtain ⟨s, hs⟩ : ∃ s, inB (gx - fr) zf zt = s := ⟨_, rfl⟩
            have HIN := hidH (fun (u : World) => (in_any (gx - fr) zf zt u).mono (fun e w' h => And.intro h.1 (show w' = u from h.2.symm)))
            rw [hs] at HIN
            have HS := hidH hs
            clear hs
            go_quiet ((go_at_call 84; exact Calls.quiet_of_same (HIN.out _)))
            go_wp2
            go_roundw
            case rel => exact ⟨t + 1, s, by omega, rfl, by go_num, by rw [HST.out, ← Bool.or_assoc, ← HQ.out, HS.out]; rfl, by obtain ⟨m, hm⟩ := HWI.out; rw [hm]; exact ⟨_, World.drewN_drewN _ _ _⟩⟩
            case measure => simp [intOf]; omega
          · go_quiet (fail)
            go_wp2
            go_roundw
            case rel => exact ⟨t + 1, true, by omega, rfl, by go_num, by rw [HST.out, ← Bool.or_assoc, ← HQ.out]; rfl, by obtain ⟨m, hm⟩ := HWI.out; rw [hm]; exact ⟨_, World.drewN_drewN _ _ _⟩⟩
            case measure => simp [intOf]; omega
        obtain rfl : t = k.Gaps.length := by omega
        rw [List.take_length] at hq
        have HPX := hidH (show P x = q by rw [HPJ.out, HB0.out, hq])
        clear hq htl ht hbb
        obtain ⟨wm, hwm⟩ : ∃ W2, wr = W2 := ⟨_, rfl⟩
        rw [hwm] at HWI HBI HSI kk0 kk1 gkl2 ⊢
        have hBm := HBI.out
        have hsm := HSI.out
        clear hwm
        have z0 := (hBm.cell (p := ⟨gi, j * 9, none⟩) HW1.out).trans d0
        have z1 := (hBm.cell (p := ⟨gi, j * 9 + 1, none⟩) HW1.out).trans d1
        have z2 := (hBm.cell (p := ⟨gi, j * 9 + 2, none⟩) HW1.out).trans d2
        have z3 := (hBm.cell (p := ⟨gi, j * 9 + 3, none⟩) HW1.out).trans d3
        have z4 := (hBm.cell (p := ⟨gi, j * 9 + 4, none⟩) HW1.out).trans d4
        have z5 := (hBm.cell (p := ⟨gi, j * 9 + 5, none⟩) HW1.out).trans d5
        have z6 := (hBm.cell (p := ⟨gi, j * 9 + 6, none⟩) HW1.out).trans d6
        have z7 := (hBm.cell (p := ⟨gi, j * 9 + 7, none⟩) HW1.out).trans d7
        have z8 := (hBm.cell (p := ⟨gi, j * 9 + 8, none⟩) HW1.out).trans d8
        have hgim := Nat.lt_of_lt_of_le HW1.out hBm.size
        have c3 := (hBm.cell (p := ⟨g, 3, none⟩) gl).trans b3
        have c0 := (hBm.cell (p := ⟨g, 0, none⟩) gl).trans b0
        have glm := Nat.lt_of_lt_of_le gl hBm.size
        clear d0 d1 d2 d3 d4 d5 d6 d7 d8 b0 b1 b3 k0 k1 gl gkl bf1 bf3
        have HBM := hidH (btr HBR.out hBm)
        have HMS := hidH hsm
        have HVG2 := hidH (own_below0 HVG.out hBm)
        have HVL2 := hidH (own_below0 HVL.out hBm)
        have hnl : (lfI P y.Items j).length ≤ 40 := by have h := HP.out.ll; have := List.length_filter_le (fun x => !P x) (y.Items.take j); have h3 := HNI.out; unfold lfI; rw [List.length_take] at this; omega
        have hng : (gnI P y.Items j).length ≤ 40 := by have := List.length_filter_le P (y.Items.take j); have h3 := HNI.out; unfold gnI; rw [List.length_take] at this; omega
        have HNL := hidH hnl
        have HNG := hidH hng
        have HSW := hidH (show w.heap.size ≤ wm.heap.size from HBM.out.size)
        obtain ⟨nl, hnl2⟩ : ∃ n, (lfI P y.Items j).length = n := ⟨_, rfl⟩
        obtain ⟨ng, hng2⟩ : ∃ n, (gnI P y.Items j).length = n := ⟨_, rfl⟩
        rw [hnl2] at HVL2 HNL ⊢
        rw [hng2] at HVG2 HNG ⊢
        have HNL2 := hidH hnl2
        have HNG2 := hidH hng2
        clear hBm hsm hnl hng hnl2 hng2
        cases q
        · have K1 := Blk.new wm 121 #[.int .i64 x.Data_Tsn, .int .i64 x.Data_Stream, .int .i64 x.Data_Seq, .bool x.Data_First, .bool x.Data_Last, .bool x.Data_Unordered, .slice A9 n9 c9, .int .i64 x.Sent, .int .i64 x.Due]
          have B1 := bal (Below.refl wm.heap.size wm) (.cells #[.int .i64 x.Data_Tsn, .int .i64 x.Data_Stream, .int .i64 x.Data_Seq, .bool x.Data_First, .bool x.Data_Last, .bool x.Data_Unordered, .slice A9 n9 c9, .int .i64 x.Sent, .int .i64 x.Due] 121)
          have HK1 := hidH K1
          have HB1 := hidH (btr HBM.out B1)
          have HG1 := hidH (own_below0 HVG2.out B1)
          have HL1 := hidH (own_below0 HVL2.out B1)
          have HS1 := hidH (Nat.le_trans HSW.out B1.size)
          clear K1 B1
          go_wp2_with (at_builtin; go_loud (refine wpList_append_Si rfl _ _ Try.underlying45 rfl w.heap.size _ nl _ rfl HL1.out wm.heap.size _ x (.slice A9 n9 c9) rfl rfl HK1.out (by have := HNL.out; omega) HS1.out ?_))
          intro v2 w2 o2 hg _
          have BB := HB1.out.grown hg HS1.out (fun kk hk => (own_block HL1.out hk).1)
          have OT := own_otherT HG1.out hg HL1.out (by decide)
          have HBB := hidH BB
          have HOT := hidH OT
          have HO2 := hidH o2
          clear BB OT o2 hg HK1 HB1 HG1 HL1 z0 z1 z2 z3 z4 z5 z6 z7 z8 c0 c3 glm hgim kk0 kk1 gkl2
          go_wp2
          go_roundw
          case rel =>
            have hpx : P y.Items[j] = false := by rw [HX.out]; exact HPX.out
            have hn := HP.out.left hlt HKS.out hpx
            have hkk : (ks[j]'(by rw [HKS.out]; exact hlt)) = kj := by have := HKJ.out; rw [List.getElem?_eq_getElem (by rw [HKS.out]; exact hlt)] at this; injection this
            rw [hkk] at hn
            refine ⟨j + 1, _, _, by omega, by go_num, ?_, ?_, hn, HBB.out⟩
            · rw [gnI_no hlt hpx, HNG2.out]
              exact HOT.out
            · rw [lfI_yes hlt hpx, List.length_append, RowI.snoc HP.out.ll, flatF_app, HNL2.out, HE9.out, HX.out]
              simpa [flatF, siE_cs] using HO2.out
          case measure => simp [intOf]; omega
        · have K1 := Blk.new wm 69 #[.int .i64 x.Data_Tsn, .int .i64 x.Data_Stream, .int .i64 x.Data_Seq, .bool x.Data_First, .bool x.Data_Last, .bool x.Data_Unordered, .slice A9 n9 c9]
          have B1 := bal (Below.refl wm.heap.size wm) (.cells #[.int .i64 x.Data_Tsn, .int .i64 x.Data_Stream, .int .i64 x.Data_Seq, .bool x.Data_First, .bool x.Data_Last, .bool x.Data_Unordered, .slice A9 n9 c9] 69)
          have HK1 := hidH K1
          have HB1 := hidH (btr HBM.out B1)
          have HG1 := hidH (own_below0 HVG2.out B1)
          have HL1 := hidH (own_below0 HVL2.out B1)
          have HS1 := hidH (Nat.le_trans HSW.out B1.size)
          clear K1 B1
          go_wp2_with (at_builtin; go_loud (refine wpList_append_Da rfl _ _ rfl w.heap.size _ ng _ rfl HG1.out wm.heap.size _ x.Data_Tsn x.Data_Stream x.Data_Seq x.Data_First x.Data_Last x.Data_Unordered A9 n9 c9 rfl HK1.out (by have := HNG.out; omega) HS1.out ?_))
          intro v2 w2 o2 hg
          have BB := HB1.out.grown hg HS1.out (fun kk hk => (own_block HG1.out hk).1)
          have OT := own_otherT HL1.out hg HG1.out (by decide)
          have HBB := hidH BB
          have HOT := hidH OT
          have HO2 := hidH o2
          clear BB OT o2 hg HK1 HB1 HG1 HL1 z0 z1 z2 z3 z4 z5 z6 z7 z8 c0 c3 glm hgim kk0 kk1 gkl2
          go_wp2
          go_roundw
          case rel =>
            have hpx : P y.Items[j] = true := by rw [HX.out]; exact HPX.out
            have hn := HP.out.gone hlt HKS.out hpx
            have hkk : (ks[j]'(by rw [HKS.out]; exact hlt)) = kj := by have := HKJ.out; rw [List.getElem?_eq_getElem (by rw [HKS.out]; exact hlt)] at this; injection this
            rw [hkk] at hn
            refine ⟨j + 1, _, _, by omega, by go_num, ?_, ?_, hn, HBB.out⟩
            · rw [gnI_yes hlt hpx, List.length_append, RowZ.snoc1 HP.out.lg, flatR_app, HNG2.out, HE9.out, HX.out]
              exact HO2.out
            · rw [lfI_no hlt hpx, HNL2.out]
              exact HOT.out
          case measure => simp [intOf]; omega
end Go.Proofs.Ythljdikcpdokdaa
