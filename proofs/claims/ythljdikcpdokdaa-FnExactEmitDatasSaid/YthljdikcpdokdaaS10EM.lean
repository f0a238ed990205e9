/- Chapter 10: the model's l10Emit. (WRITTEN BY tools/emit10.py) -/
import Derived.Test.YthljdikcpdokdaaS10E
import Derived.Test.YthljdikcpdokdaaNb2
import Derived.Test.YthljdikcpdokdaaS10CM
import Derived.Test.YthljdikcpdokdaaS10M
import Derived.Test.YthljdikcpdokdaaNa7
import Derived.Test.YthljdikcpdokdaaNa3
import Derived.BigQuiet
import Derived.Deep.Cut
namespace Go.Proofs.Ythljdikcpdokdaa
open Go.RowKit Go.Deep

/-- An item where it lies. -/
theorem EM.at {w W : World} {B g gi n c nf : Nat} {y : SendM} {S F D : Value} {fs : List Value} {ks ls : List (Value × Nat × Nat)} {its : List SendItemM} {ds : List DataM} (h : EM w B g y S (.slice (some ⟨gi, 0, none⟩) n c) F nf fs ks W its D ds ls) {i : Nat} {x : SendItemM} (hx : its[i]? = some x) :
    ∃ (A9 : Option Addr) (c9 : Nat), gi < W.heap.size ∧ (∀ t u, (scs x (.slice A9 x.Data_Piece.length c9))[t]? = some u → W.cell? ⟨gi, i * 9 + t, none⟩ = some u) ∧ (∀ p, W.frozen? ⟨gi, p, none⟩ = false) ∧ Bs W A9 x.Data_Piece := by
  have hj : i < its.length := (List.getElem?_eq_some_iff.1 hx).1
  have hxx : its[i] = x := (List.getElem?_eq_some_iff.1 hx).2
  obtain ⟨cur, hc, _⟩ := h.its.blk
  obtain ⟨g2, c2, A9, n9, c9, eI, _, hgi, ⟨kj, hkj, e9⟩, hcell⟩ := h.its.cell9 hj
  injection eI with eI _ _
  injection eI with eI
  injection eI with eI _
  subst eI
  have hjk : i < ks.length := by rw [h.its.len]; exact hj
  have hkk : ks[i] = kj := by rw [List.getElem?_eq_getElem hjk] at hkj; injection hkj
  have hmem : siE its[i] ks[i].1 ks[i].2.1 ks[i].2.2 ∈ RowI its ks := by
    unfold RowI
    rw [List.mem_iff_getElem]
    exact ⟨i, by simp; omega, by simp⟩
  have hrd : Rd W (.bs its[i].Data_Piece) ks[i].1 := (h.its.rts.mem _ hmem).1.1.rd
  rw [hkk, hxx, e9] at hrd
  rw [hxx] at hcell
  obtain ⟨A, c', e⟩ := hrd.bs_sh
  injection e with e1 e2 e3
  subst e2
  exact ⟨A9, c9, hgi, hcell, fun p => hc.frozen p, bsOf hrd⟩
set_option maxRecDepth 100000 in
set_option maxHeartbeats 8000000 in
theorem l10Emit_any (y : SendM) (hy : SdOk y) (now rto most : Int) (hr : emOk now rto most = true) (g : Nat) (S I : Value) (ks : List (Value × Nat × Nat)) (B : Nat) (w : World) (hb : Blk w g 47 #[.int .i64 y.Next, .int .i64 y.Acked, S, I]) (hS : w.ownsRow B 2 1 S y.Seqs.length (y.Seqs.map (Value.int .i64))) (hI : SZ w B B I y.Items ks) (hB : B ≤ w.heap.size) :
    Calls Try.prog 105 #[.pointer (some ⟨g, 0, none⟩), .int .i64 now, .int .i64 rto, .int .i64 most] w fun e w' => ∃ (D : Value) (ls : List (Value × Nat × Nat)), e = .returned D ∧ EM w B g y S I (.slice none 0 0) 0 [] ks w' (upS now rto y.Items (emF y now most)) D (dsS y.Items (emF y now most)) ls := by
  have hkt := hI.kstop
  obtain ⟨AI, cI, rfl⟩ := hI.shape
  have HEM0 : Hid (EM w B g y S (.slice AI y.Items.length cI) (.slice none 0 0) 0 [] ks (w.alloc (.cells #[] 69)) y.Items (.slice (some ⟨w.heap.size, 0, none⟩) 0 0) [] []) := hidH (by
    have hbl := bal (Below.refl w.heap.size w) (.cells #[] 69)
    exact ⟨hb.below hbl, own_below0 hS hbl, hI.below hbl, ⟨rfl, .inl ⟨rfl, rfl⟩⟩, ⟨World.ownsRow_lit w #[] 0 (Nat.le_refl _) (by unfold maxLen; omega) rfl, RTs.nil _ _, rfl⟩, hbl.mono hB, hB, hkt⟩)
  simp only [emOk, Bool.and_eq_true, decide_eq_true_eq] at hr
  obtain ⟨⟨n1, n2⟩, ⟨r1, r2⟩, m1, m2⟩ := hr
  have HGT := hidH (fun (j : Nat) (hj : j < y.Items.length) (W : World) => show Calls Try.prog 83 #[.int .i64 y.Acked, .int .i64 y.Items[j].Data_Tsn] W (fun e w' => e = .returned (.int .i64 (gapV y.Acked y.Items[j].Data_Tsn)) ∧ w' = W) from by
    have hs := siF_zero (itF_mem hy.its _ (List.getElem_mem hj)).1
    have hw : IsW y.Items[j].Data_Tsn := wB_is (pdF_tsn hs.1)
    rw [gapV_yes hy.acked hw]
    exact (l1Gap_any _ _ W hy.acked.1 hy.acked.2 hw.1 hw.2).mono (fun e w' h => ⟨h.1, h.2.symm⟩))
  have HRG := hidH (fun (j : Nat) (hj : j < y.Items.length) => (siF_zero (itF_mem hy.its _ (List.getElem_mem hj)).1).2)
  have HLN := hidH (fun (j : Nat) (hj : j < y.Items.length) => show y.Items[j].Data_Piece.length ≤ 4000000 from by
    have h2 := (pdF_zero (siF_zero (itF_mem hy.its _ (List.getElem_mem hj)).1).1).2.2.2.2
    have h3 : y.Items[j].d.Piece.length = y.Items[j].Data_Piece.length := rfl
    omega)
  have HP := hidH (fun (x : SendItemM) => show dueB y.Acked now x = (decide (gapV y.Acked x.Data_Tsn ≤ 16) && (decide (x.Sent = 0) || decide (x.Due ≤ now))) from rfl)
  obtain ⟨P, hP⟩ : ∃ P, dueB y.Acked now = P := ⟨_, rfl⟩
  simp only [hP] at HP
  have HPE := hidH hP
  have HMB := hidH (fun (W : World) => min_any (now + rto) 1000000000 (min (now + rto) 1000000000) W (by split <;> omega))
  obtain ⟨du, hdu⟩ : ∃ z, min (now + rto) 1000000000 = z := ⟨_, rfl⟩
  rw [hdu] at HMB
  have HDU := hidH hdu
  have hni : (y.Items.length : Int) ≤ 40 := by have := hy.items; omega
  clear hb hS hI hy hP hdu hkt
  go_enter Try.func105, Try.ntmps105
  go_wp2
  go_loopw [9, 10] (fun v i wr => ∃ (j : Nat) (ls : List (Value × Nat × Nat)), j ≤ y.Items.length ∧ i = .int .i64 (j : Int) ∧ EM w B g y S (.slice AI y.Items.length cI) (.slice none 0 0) 0 [] ks wr (upS now rto y.Items (fdS P most y.Items j)) v (dsS y.Items (fdS P most y.Items j)) ls) (fun _ i _ => y.Items.length - (intOf i).toNat)
  case atStart => exact ⟨0, [], by omega, rfl, HEM0.out⟩
  case round =>
    obtain ⟨j, ls, hj, rfl, hE⟩ := hrel
    obtain ⟨W, hW⟩ : ∃ W, wr = W := ⟨_, rfl⟩
    rw [hW] at hE ⊢
    clear hW
    obtain ⟨Ag, cg, rfl⟩ := own_lenT hE.dat.row
    have hBx := hE.box
    have b0 := hBx.cell 0
    have b1 := hBx.cell 1
    have b2 := hBx.cell 2
    have b3 := hBx.cell 3
    simp only [List.getElem?_toArray, List.getElem?_cons_succ, List.getElem?_cons_zero] at b0 b1 b2 b3
    have bl := hBx.lt
    obtain ⟨ng, hng⟩ : ∃ n, (dsS y.Items (fdS P most y.Items j)).length = n := ⟨_, rfl⟩
    rw [hng] at hE ⊢
    rw [dsS_len] at hng
    have HNG := hidH hng
    have HEM := hidH hE
    have hng2 : ng ≤ 40 := by have := fdS_len (P := P) (most := most) (r := y.Items) (j := j); omega
    clear hBx hE hng
    by_cases hlt : j < y.Items.length
    case neg =>
      obtain rfl : j = y.Items.length := by omega
      go_wp2
      go_ret
      exact ⟨_, ls, rfl, by have := HEM.out; rw [← HPE.out] at this; exact this⟩
    have hj0 : (0 : Int) ≤ (j : Int) := by omega
    have hj1 : (j : Int) < (y.Items.length : Int) := by omega
    obtain ⟨gi, ci, _, _, _, eI, _, hgi, _, _⟩ := HEM.out.its.cell9 (j := j) (by rw [upS_len]; exact hlt)
    injection eI with eI _ eC
    subst eI
    clear eC ci
    have HGJ := hidH (HGT.out j hlt)
    have hrj := HRG.out j hlt
    have hgr := gapV_rng y.Acked y.Items[j].Data_Tsn
    have HPX := HP.out y.Items[j]
    obtain ⟨A9, c9, _, hcell, _, _⟩ := HEM.out.at (x := y.Items[j]) (by rw [upS_get _ _ _ fdS_new]; exact List.getElem?_eq_getElem hlt)
    obtain ⟨x, hx⟩ : ∃ x, y.Items[j] = x := ⟨_, rfl⟩
    rw [hx] at HGJ hrj hgr HPX hcell
    have HX := hidH hx
    obtain ⟨gx, hgx⟩ : ∃ z, gapV y.Acked x.Data_Tsn = z := ⟨_, rfl⟩
    rw [hgx] at HGJ hgr HPX
    have d0 : W.cell? ⟨gi, j * 9, none⟩ = some (.int .i64 x.Data_Tsn) := hcell 0 _ rfl
    have d7 := hcell 7 _ rfl
    have d8 := hcell 8 _ rfl
    have hP2 := HPX
    have HPX := hidH HPX
    have HMA := hidH (fun (W : World) => min_any (x.Sent + 1) 99 (min (x.Sent + 1) 99) W (by split <;> omega))
    obtain ⟨sn, hsn⟩ : ∃ z, min (x.Sent + 1) 99 = z := ⟨_, rfl⟩
    rw [hsn] at HMA
    have HSN := hidH hsn
    obtain ⟨⟨s1, s2⟩, s3, s4⟩ := hrj
    clear hcell hx hgx hsn
    by_cases hA : most ≤ (ng : Int)
    · have dA : decide (most ≤ (ng : Int)) = true := by simpa using hA
      have HNO := hidH (show ¬ (((fdS P most y.Items j).length : Int) < most ∧ P y.Items[j] = true) from fun h => by have := HNG.out; omega)
      clear hA hP2
      go_wp2_with fail
      try simp only [List.append]
      go_quiet (fail)
      go_wp2
      go_roundw
      case rel => exact ⟨j + 1, ls, by omega, by go_num, by rw [fdS_no hlt HNO.out]; exact HEM.out.turn (below_drewN (Below.refl _ _) _)⟩
      case measure => simp [intOf]; omega
    have dA : decide (most ≤ (ng : Int)) = false := by simpa using hA
    by_cases hB : 16 < gx
    · have dB : decide (16 < gx) = true := by simpa using hB
      have HNO := hidH (show ¬ (((fdS P most y.Items j).length : Int) < most ∧ P y.Items[j] = true) from by rw [HX.out, HPX.out]; have h1 : ¬ gx ≤ 16 := (by omega); simp [h1])
      clear hA hP2
      go_wp2_with fail
      try simp only [List.append]
      go_quiet ((go_at_call 83; exact Calls.quiet_of_same (HGJ.out _)))
      go_wp2
      go_roundw
      case rel => exact ⟨j + 1, ls, by omega, by go_num, by rw [fdS_no hlt HNO.out]; exact HEM.out.turn (below_drewN (Below.refl _ _) _)⟩
      case measure => simp [intOf]; omega
    have dB : decide (16 < gx) = false := by simpa using hB
    by_cases hC : 0 < x.Sent
    · have dC : decide (0 < x.Sent) = true := by simpa using hC
      by_cases hD : now < x.Due
      · have dD : decide (now < x.Due) = true := by simpa using hD
        have HNO := hidH (show ¬ (((fdS P most y.Items j).length : Int) < most ∧ P y.Items[j] = true) from by rw [HX.out, HPX.out]; have h1 : ¬ x.Sent = 0 := (by omega); have h2 : ¬ x.Due ≤ now := (by omega); simp [h1, h2])
        clear hA hP2
        go_wp2_with fail
        try simp only [List.append]
        go_quiet ((go_at_call 83; exact Calls.quiet_of_same (HGJ.out _)))
        go_wp2
        go_roundw
        case rel => exact ⟨j + 1, ls, by omega, by go_num, by rw [fdS_no hlt HNO.out]; exact HEM.out.turn (below_drewN (Below.refl _ _) _)⟩
        case measure => simp [intOf]; omega
      · have dD : decide (now < x.Due) = false := by simpa using hD
        have HYES := hidH (show ((fdS P most y.Items j).length : Int) < most ∧ P y.Items[j] = true from ⟨by have := HNG.out; omega, by rw [HX.out, HPX.out]; have h1 : gx ≤ 16 := (by omega); have h2 : x.Due ≤ now := (by omega); simp [h1, h2]⟩)
        clear hA hP2
        go_wp2_with fail
        try simp only [List.append]
        go_quiet ((go_at_call 83; exact Calls.quiet_of_same (HGJ.out _)))
        obtain ⟨wd, hwd⟩ : ∃ W', W.drewN nq = W' := ⟨_, rfl⟩
        rw [hwd]
        have HE1 := hidH (HEM.out.turn (show Below W.heap.size W wd by rw [← hwd]; exact below_drewN (Below.refl _ _) _))
        clear hwd b0 b1 b2 b3 bl d0 d7 d8 hgi
        obtain ⟨A8, c8, hgi, hcell, hfz, _⟩ := HE1.out.at (x := x) (by rw [upS_get _ _ _ fdS_new, ← HX.out]; exact List.getElem?_eq_getElem hlt)
        have d7 := hcell 7 _ rfl
        have d8 := hcell 8 _ rfl
        have f7 := hfz (j * 9 + 7)
        have f8 := hfz (j * 9 + 8)
        clear hcell hfz
        go_upto_region 9 with (go_at_call 141; first | (refine (HMA.out _).mono ?_; rintro e w' ⟨rfl, rfl⟩) | (refine (HMB.out _).mono ?_; rintro e w' ⟨rfl, rfl⟩))
        clear d7 d8 f7 f8 hgi
        have E2 := (HE1.out.put (i := j) (k := 7) (x := x) (by rw [upS_get _ _ _ fdS_new, ← HX.out]; exact List.getElem?_eq_getElem hlt) (by omega) (.int .i64 sn) (fun z => { z with Sent := sn }) (fun _ _ => rfl) rfl).put (i := j) (k := 8) (x := { x with Sent := sn }) (by rw [List.getElem?_set_self (by rw [upS_len]; exact hlt)]) (by omega) (.int .i64 du) (fun z => { z with Due := du }) (fun _ _ => rfl) rfl
        rw [List.set_set] at E2
        obtain ⟨w2, hw2⟩ : ∃ W', (wd.setCell ⟨gi, j * 9 + 7, none⟩ (.int .i64 sn)).setCell ⟨gi, j * 9 + 8, none⟩ (.int .i64 du) = W' := ⟨_, rfl⟩
        rw [hw2] at E2 ⊢
        clear hw2 HE1
        obtain ⟨A6, c6, hgi, hcell, hfz, hbs⟩ := E2.at (i := j) (by rw [List.getElem?_set_self (by rw [upS_len]; exact hlt)])
        have hbs : Bs w2 A6 x.Data_Piece := hbs
        have z0 : w2.cell? ⟨gi, j * 9, none⟩ = some (.int .i64 x.Data_Tsn) := hcell 0 _ rfl
        have z1 : w2.cell? ⟨gi, j * 9 + 1, none⟩ = some (.int .i64 x.Data_Stream) := hcell 1 _ rfl
        have z2 : w2.cell? ⟨gi, j * 9 + 2, none⟩ = some (.int .i64 x.Data_Seq) := hcell 2 _ rfl
        have z3 : w2.cell? ⟨gi, j * 9 + 3, none⟩ = some (.bool x.Data_First) := hcell 3 _ rfl
        have z4 : w2.cell? ⟨gi, j * 9 + 4, none⟩ = some (.bool x.Data_Last) := hcell 4 _ rfl
        have z5 : w2.cell? ⟨gi, j * 9 + 5, none⟩ = some (.bool x.Data_Unordered) := hcell 5 _ rfl
        have z6 : w2.cell? ⟨gi, j * 9 + 6, none⟩ = some (.slice A6 x.Data_Piece.length c6) := hcell 6 _ rfl
        clear hcell hfz
        have HE2 := hidH E2
        obtain ⟨d, hd⟩ : ∃ d, w2.heap.size = d := ⟨_, rfl⟩
        have B1 := bal (Below.refl w2.heap.size w2) (.cells #[.int .i64 x.Data_Tsn, .int .i64 x.Data_Stream, .int .i64 x.Data_Seq, .bool x.Data_First, .bool x.Data_Last, .bool x.Data_Unordered, .slice A6 x.Data_Piece.length c6] 69)
        have R1 := Blk.new w2 69 #[.int .i64 x.Data_Tsn, .int .i64 x.Data_Stream, .int .i64 x.Data_Seq, .bool x.Data_First, .bool x.Data_Last, .bool x.Data_Unordered, .slice A6 x.Data_Piece.length c6]
        have s1 : (w2.alloc (.cells #[.int .i64 x.Data_Tsn, .int .i64 x.Data_Stream, .int .i64 x.Data_Seq, .bool x.Data_First, .bool x.Data_Last, .bool x.Data_Unordered, .slice A6 x.Data_Piece.length c6] 69)).heap.size = w2.heap.size + 1 := World.size_alloc _ _
        obtain ⟨W1, hW1⟩ : ∃ W1, w2.alloc (.cells #[.int .i64 x.Data_Tsn, .int .i64 x.Data_Stream, .int .i64 x.Data_Seq, .bool x.Data_First, .bool x.Data_Last, .bool x.Data_Unordered, .slice A6 x.Data_Piece.length c6] 69) = W1 := ⟨_, rfl⟩
        rw [hW1] at B1 R1 s1
        have HC := hidH (copy_any A6 x.Data_Piece c6 W1 (bs_below hbs B1) (by have := HLN.out j hlt; rw [HX.out] at this; exact this))
        rw [hd] at R1 s1
        have HR1 := hidH R1
        have HB1 := hidH B1
        have HS1 := hidH s1
        have HW1 := hidH hW1
        have HD := hidH hd
        clear hd B1 R1 s1 hW1 E2 hbs
        go_wp2_with fail
        rw [HW1.out, HD.out]
        clear z0 z1 z2 z3 z4 z5 z6 hgi
        refine HC.out.mono ?_
        rintro e w9 ⟨v9, rfl, o9, hb9⟩
        obtain ⟨A9, c9, rfl⟩ := own_lenT o9
        have R9 := HR1.out.below hb9
        have f6 := R9.frozen 6
        have x6 := R9.cell 6
        simp only [List.getElem?_toArray, List.getElem?_cons_succ, List.getElem?_cons_zero] at x6
        have hdl := R9.lt
        have hsz9 : d + 1 ≤ w9.heap.size := by have := hb9.size; have := HS1.out; omega
        have K10 := R9.put 6 (.slice A9 x.Data_Piece.length c9)
        have hdB : d < W1.heap.size := by have := HS1.out; omega
        have o10 := own_monoT (own_keptT o9 (set_win w9 d 6 (.slice A9 x.Data_Piece.length c9)) hdB) (show d ≤ W1.heap.size from Nat.le_of_lt hdB)
        have HB9 := hidH (btr HB1.out hb9)
        have B10 := bst HB9.out (p := ⟨d, 6, none⟩) (by rw [HD.out]; exact Nat.le_refl _) (.slice A9 x.Data_Piece.length c9)
        have s10 : (w9.setCell ⟨d, 6, none⟩ (.slice A9 x.Data_Piece.length c9)).heap.size = w9.heap.size := by simp [World.setCell]
        have HK10 := hidH K10
        have HO10 := hidH o10
        have HB10 := hidH B10
        have HS10 := hidH s10
        have HS9 := hidH hsz9
        clear o9 hb9 K10 o10 B10 s10 hdB R9 hsz9
        have q0 := HK10.out.cell 0
        have q1 := HK10.out.cell 1
        have q2 := HK10.out.cell 2
        have q3 := HK10.out.cell 3
        have q4 := HK10.out.cell 4
        have q5 := HK10.out.cell 5
        have q6 := HK10.out.cell 6
        simp only [List.setIfInBounds_toArray, List.set_cons_succ, List.set_cons_zero, List.getElem?_toArray, List.getElem?_cons_succ, List.getElem?_cons_zero] at q0 q1 q2 q3 q4 q5 q6
        have B11 := bal HB10.out (.cells #[.int .i64 x.Data_Tsn, .int .i64 x.Data_Stream, .int .i64 x.Data_Seq, .bool x.Data_First, .bool x.Data_Last, .bool x.Data_Unordered, .slice A9 x.Data_Piece.length c9] 69)
        have K11 := Blk.new (w9.setCell ⟨d, 6, none⟩ (.slice A9 x.Data_Piece.length c9)) 69 #[.int .i64 x.Data_Tsn, .int .i64 x.Data_Stream, .int .i64 x.Data_Seq, .bool x.Data_First, .bool x.Data_Last, .bool x.Data_Unordered, .slice A9 x.Data_Piece.length c9]
        rw [HS10.out] at K11
        have o11 := own_below0 HO10.out (bal (Below.refl _ (w9.setCell ⟨d, 6, none⟩ (.slice A9 x.Data_Piece.length c9))) (.cells #[.int .i64 x.Data_Tsn, .int .i64 x.Data_Stream, .int .i64 x.Data_Seq, .bool x.Data_First, .bool x.Data_Last, .bool x.Data_Unordered, .slice A9 x.Data_Piece.length c9] 69))
        obtain ⟨lo, hi2, hlo, hrt⟩ := RT.of_row o11 (by rw [World.size_alloc, HS10.out]; have := HS9.out; omega) [.int x.Data_Tsn, .int x.Data_Stream, .int x.Data_Seq, .bool x.Data_First, .bool x.Data_Last, .bool x.Data_Unordered]
        have HRT := hidH hrt
        have HLO := hidH hlo
        have HB11 := hidH B11
        have HK11 := hidH K11
        have HDR := hidH (HE2.out.turn B11).dat.row
        have HSZ := hidH (show w.heap.size ≤ _ from Nat.le_trans HE2.out.top B11.size)
        rw [dsS_len] at HDR
        have HLL := hidH (show (fdS P most y.Items j).length = ng from HNG.out)
        rw [HLL.out] at HDR
        clear B11 K11 o11 hrt hlo
        go_wp2_with (at_builtin; go_loud (refine wpList_append_Da rfl _ _ rfl w.heap.size _ ng _ rfl HDR.out w9.heap.size _ x.Data_Tsn x.Data_Stream x.Data_Seq x.Data_First x.Data_Last x.Data_Unordered A9 x.Data_Piece.length c9 rfl HK11.out (by omega) HSZ.out ?_))
        intro v2 w3 o2 hg
        have E3 := HE2.out.app (v := .slice A9 x.Data_Piece.length c9) (lo := lo) (hi := hi2) (X := x.d) (D' := v2) HB11.out HRT.out (by rw [HD.out]; exact HLO.out) (by rw [dsS_len, HLL.out]; exact o2) hg
        have HE3 := hidH E3
        clear E3 o2 hg q0 q1 q2 q3 q4 q5 q6 f6 x6 hdl
        go_wp2
        go_roundw
        case rel =>
          refine ⟨j + 1, ls ++ [(.slice A9 x.Data_Piece.length c9, lo, hi2)], by omega, by go_num, ?_⟩
          rw [fdS_yes hlt HYES.out.1 HYES.out.2, upS_snoc, dsS_snoc, getD_it hlt, HX.out]
          have e : sentI now rto x = { x with Sent := sn, Due := du } := by rw [← HSN.out, ← HDU.out]; rfl
          rw [e]
          exact HE3.out
        case measure => simp [intOf]; omega
    · have dC : decide (0 < x.Sent) = false := by simpa using hC
      have HYES := hidH (show ((fdS P most y.Items j).length : Int) < most ∧ P y.Items[j] = true from ⟨by have := HNG.out; omega, by rw [HX.out, HPX.out]; have h1 : gx ≤ 16 := (by omega); have h2 : x.Sent = 0 := (by omega); simp [h1, h2]⟩)
      clear hA hP2
      go_wp2_with fail
      try simp only [List.append]
      go_quiet ((go_at_call 83; exact Calls.quiet_of_same (HGJ.out _)))
      obtain ⟨wd, hwd⟩ : ∃ W', W.drewN nq = W' := ⟨_, rfl⟩
      rw [hwd]
      have HE1 := hidH (HEM.out.turn (show Below W.heap.size W wd by rw [← hwd]; exact below_drewN (Below.refl _ _) _))
      clear hwd b0 b1 b2 b3 bl d0 d7 d8 hgi
      obtain ⟨A8, c8, hgi, hcell, hfz, _⟩ := HE1.out.at (x := x) (by rw [upS_get _ _ _ fdS_new, ← HX.out]; exact List.getElem?_eq_getElem hlt)
      have d7 := hcell 7 _ rfl
      have d8 := hcell 8 _ rfl
      have f7 := hfz (j * 9 + 7)
      have f8 := hfz (j * 9 + 8)
      clear hcell hfz
      go_upto_region 9 with (go_at_call 141; first | (refine (HMA.out _).mono ?_; rintro e w' ⟨rfl, rfl⟩) | (refine (HMB.out _).mono ?_; rintro e w' ⟨rfl, rfl⟩))
      clear d7 d8 f7 f8 hgi
      have E2 := (HE1.out.put (i := j) (k := 7) (x := x) (by rw [upS_get _ _ _ fdS_new, ← HX.out]; exact List.getElem?_eq_getElem hlt) (by omega) (.int .i64 sn) (fun z => { z with Sent := sn }) (fun _ _ => rfl) rfl).put (i := j) (k := 8) (x := { x with Sent := sn }) (by rw [List.getElem?_set_self (by rw [upS_len]; exact hlt)]) (by omega) (.int .i64 du) (fun z => { z with Due := du }) (fun _ _ => rfl) rfl
      rw [List.set_set] at E2
      obtain ⟨w2, hw2⟩ : ∃ W', (wd.setCell ⟨gi, j * 9 + 7, none⟩ (.int .i64 sn)).setCell ⟨gi, j * 9 + 8, none⟩ (.int .i64 du) = W' := ⟨_, rfl⟩
      rw [hw2] at E2 ⊢
      clear hw2 HE1
      obtain ⟨A6, c6, hgi, hcell, hfz, hbs⟩ := E2.at (i := j) (by rw [List.getElem?_set_self (by rw [upS_len]; exact hlt)])
      have hbs : Bs w2 A6 x.Data_Piece := hbs
      have z0 : w2.cell? ⟨gi, j * 9, none⟩ = some (.int .i64 x.Data_Tsn) := hcell 0 _ rfl
      have z1 : w2.cell? ⟨gi, j * 9 + 1, none⟩ = some (.int .i64 x.Data_Stream) := hcell 1 _ rfl
      have z2 : w2.cell? ⟨gi, j * 9 + 2, none⟩ = some (.int .i64 x.Data_Seq) := hcell 2 _ rfl
      have z3 : w2.cell? ⟨gi, j * 9 + 3, none⟩ = some (.bool x.Data_First) := hcell 3 _ rfl
      have z4 : w2.cell? ⟨gi, j * 9 + 4, none⟩ = some (.bool x.Data_Last) := hcell 4 _ rfl
      have z5 : w2.cell? ⟨gi, j * 9 + 5, none⟩ = some (.bool x.Data_Unordered) := hcell 5 _ rfl
      have z6 : w2.cell? ⟨gi, j * 9 + 6, none⟩ = some (.slice A6 x.Data_Piece.length c6) := hcell 6 _ rfl
      clear hcell hfz
      have HE2 := hidH E2
      obtain ⟨d, hd⟩ : ∃ d, w2.heap.size = d := ⟨_, rfl⟩
      have B1 := bal (Below.refl w2.heap.size w2) (.cells #[.int .i64 x.Data_Tsn, .int .i64 x.Data_Stream, .int .i64 x.Data_Seq, .bool x.Data_First, .bool x.Data_Last, .bool x.Data_Unordered, .slice A6 x.Data_Piece.length c6] 69)
      have R1 := Blk.new w2 69 #[.int .i64 x.Data_Tsn, .int .i64 x.Data_Stream, .int .i64 x.Data_Seq, .bool x.Data_First, .bool x.Data_Last, .bool x.Data_Unordered, .slice A6 x.Data_Piece.length c6]
      have s1 : (w2.alloc (.cells #[.int .i64 x.Data_Tsn, .int .i64 x.Data_Stream, .int .i64 x.Data_Seq, .bool x.Data_First, .bool x.Data_Last, .bool x.Data_Unordered, .slice A6 x.Data_Piece.length c6] 69)).heap.size = w2.heap.size + 1 := World.size_alloc _ _
      obtain ⟨W1, hW1⟩ : ∃ W1, w2.alloc (.cells #[.int .i64 x.Data_Tsn, .int .i64 x.Data_Stream, .int .i64 x.Data_Seq, .bool x.Data_First, .bool x.Data_Last, .bool x.Data_Unordered, .slice A6 x.Data_Piece.length c6] 69) = W1 := ⟨_, rfl⟩
      rw [hW1] at B1 R1 s1
      have HC := hidH (copy_any A6 x.Data_Piece c6 W1 (bs_below hbs B1) (by have := HLN.out j hlt; rw [HX.out] at this; exact this))
      rw [hd] at R1 s1
      have HR1 := hidH R1
      have HB1 := hidH B1
      have HS1 := hidH s1
      have HW1 := hidH hW1
      have HD := hidH hd
      clear hd B1 R1 s1 hW1 E2 hbs
      go_wp2_with fail
      rw [HW1.out, HD.out]
      clear z0 z1 z2 z3 z4 z5 z6 hgi
      refine HC.out.mono ?_
      rintro e w9 ⟨v9, rfl, o9, hb9⟩
      obtain ⟨A9, c9, rfl⟩ := own_lenT o9
      have R9 := HR1.out.below hb9
      have f6 := R9.frozen 6
      have x6 := R9.cell 6
      simp only [List.getElem?_toArray, List.getElem?_cons_succ, List.getElem?_cons_zero] at x6
      have hdl := R9.lt
      have hsz9 : d + 1 ≤ w9.heap.size := by have := hb9.size; have := HS1.out; omega
      have K10 := R9.put 6 (.slice A9 x.Data_Piece.length c9)
      have hdB : d < W1.heap.size := by have := HS1.out; omega
      have o10 := own_monoT (own_keptT o9 (set_win w9 d 6 (.slice A9 x.Data_Piece.length c9)) hdB) (show d ≤ W1.heap.size from Nat.le_of_lt hdB)
      have HB9 := hidH (btr HB1.out hb9)
      have B10 := bst HB9.out (p := ⟨d, 6, none⟩) (by rw [HD.out]; exact Nat.le_refl _) (.slice A9 x.Data_Piece.length c9)
      have s10 : (w9.setCell ⟨d, 6, none⟩ (.slice A9 x.Data_Piece.length c9)).heap.size = w9.heap.size := by simp [World.setCell]
      have HK10 := hidH K10
      have HO10 := hidH o10
      have HB10 := hidH B10
      have HS10 := hidH s10
      have HS9 := hidH hsz9
      clear o9 hb9 K10 o10 B10 s10 hdB R9 hsz9
      have q0 := HK10.out.cell 0
      have q1 := HK10.out.cell 1
      have q2 := HK10.out.cell 2
      have q3 := HK10.out.cell 3
      have q4 := HK10.out.cell 4
      have q5 := HK10.out.cell 5
      have q6 := HK10.out.cell 6
      simp only [List.setIfInBounds_toArray, List.set_cons_succ, List.set_cons_zero, List.getElem?_toArray, List.getElem?_cons_succ, List.getElem?_cons_zero] at q0 q1 q2 q3 q4 q5 q6
      have B11 := bal HB10.out (.cells #[.int .i64 x.Data_Tsn, .int .i64 x.Data_Stream, .int .i64 x.Data_Seq, .bool x.Data_First, .bool x.Data_Last, .bool x.Data_Unordered, .slice A9 x.Data_Piece.length c9] 69)
      have K11 := Blk.new (w9.setCell ⟨d, 6, none⟩ (.slice A9 x.Data_Piece.length c9)) 69 #[.int .i64 x.Data_Tsn, .int .i64 x.Data_Stream, .int .i64 x.Data_Seq, .bool x.Data_First, .bool x.Data_Last, .bool x.Data_Unordered, .slice A9 x.Data_Piece.length c9]
      rw [HS10.out] at K11
      have o11 := own_below0 HO10.out (bal (Below.refl _ (w9.setCell ⟨d, 6, none⟩ (.slice A9 x.Data_Piece.length c9))) (.cells #[.int .i64 x.Data_Tsn, .int .i64 x.Data_Stream, .int .i64 x.Data_Seq, .bool x.Data_First, .bool x.Data_Last, .bool x.Data_Unordered, .slice A9 x.Data_Piece.length c9] 69))
      obtain ⟨lo, hi2, hlo, hrt⟩ := RT.of_row o11 (by rw [World.size_alloc, HS10.out]; have := HS9.out; omega) [.int x.Data_Tsn, .int x.Data_Stream, .int x.Data_Seq, .bool x.Data_First, .bool x.Data_Last, .bool x.Data_Unordered]
      have HRT := hidH hrt
      have HLO := hidH hlo
      have HB11 := hidH B11
      have HK11 := hidH K11
      have HDR := hidH (HE2.out.turn B11).dat.row
      have HSZ := hidH (show w.heap.size ≤ _ from Nat.le_trans HE2.out.top B11.size)
      rw [dsS_len] at HDR
      have HLL := hidH (show (fdS P most y.Items j).length = ng from HNG.out)
      rw [HLL.out] at HDR
      clear B11 K11 o11 hrt hlo
      go_wp2_with (at_builtin; go_loud (refine wpList_append_Da rfl _ _ rfl w.heap.size _ ng _ rfl HDR.out w9.heap.size _ x.Data_Tsn x.Data_Stream x.Data_Seq x.Data_First x.Data_Last x.Data_Unordered A9 x.Data_Piece.length c9 rfl HK11.out (by omega) HSZ.out ?_))
      intro v2 w3 o2 hg
      have E3 := HE2.out.app (v := .slice A9 x.Data_Piece.length c9) (lo := lo) (hi := hi2) (X := x.d) (D' := v2) HB11.out HRT.out (by rw [HD.out]; exact HLO.out) (by rw [dsS_len, HLL.out]; exact o2) hg
      have HE3 := hidH E3
      clear E3 o2 hg q0 q1 q2 q3 q4 q5 q6 f6 x6 hdl
      go_wp2
      go_roundw
      case rel =>
        refine ⟨j + 1, ls ++ [(.slice A9 x.Data_Piece.length c9, lo, hi2)], by omega, by go_num, ?_⟩
        rw [fdS_yes hlt HYES.out.1 HYES.out.2, upS_snoc, dsS_snoc, getD_it hlt, HX.out]
        have e : sentI now rto x = { x with Sent := sn, Due := du } := by rw [← HSN.out, ← HDU.out]; rfl
        rw [e]
        exact HE3.out
      case measure => simp [intOf]; omega
end Go.Proofs.Ythljdikcpdokdaa
