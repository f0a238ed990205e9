/- The model's chapter 5: acknowledgements: l5Sack, PackSack. -/
import Derived.Test.YtjjileefdjjijaaDoorS5SR
import Derived.Test.YtjjileefdjjijaaDoorS5K
import Derived.Test.YtjjileefdjjijaaDoorMb6
namespace Go.Proofs.YtjjileefdjjijaaDoor
open Go.RowKit Go.Deep

theorem ksR_len (y : SackM) (_ : WfA y.vs) (h : tot.totL y.vs ≤ 1048576) : vcA (ksR y).vs ≤ 1000000000 := by
  simp only [SackM.vs, tot.totL, tot, st_Gap] at h
  unfold ksR crOf
  split
  · simp only [ChunkResultM.vs, vcA, vc, cc, ksC, pk, List.length_append, List.length_cons, List.length_nil, gap_len]; omega
  · simp [ChunkResultM.vs, vcA, vc, cc]
theorem okGaps_get : ∀ (a : Int) (r : List GapM), okGaps a r = true → ∀ j (hj : j < r.length), (0 ≤ r[j].From ∧ r[j].From < 65536) ∧ 0 ≤ r[j].To ∧ r[j].To < 65536
  | _, [], _, j, hj => by simp at hj
  | a, z :: r, h, j, hj => by
    rw [okGaps_cons] at h
    simp only [inB, Bool.and_eq_true, decide_eq_true_eq] at h
    cases j with
    | zero => simp only [List.getElem_cons_zero]; omega
    | succ j => simp only [List.getElem_cons_succ]; exact okGaps_get _ r h.2 j (by simpa using hj)
set_option maxRecDepth 100000 in
set_option maxHeartbeats 8000000 in
theorem l5Sack_any (g o : Nat) (y : SackM) (w : World) (hg : g < w.heap.size) (h : RdL w y.vs g o) (ht0 : 0 ≤ y.Cum) (ht1 : y.Cum ≤ 4294967295) (hn : y.Gaps.length ≤ 200) (hok : okGaps 0 y.Gaps = true) :
    Calls Tryd.prog 67 #[.pointer (some ⟨g, o, none⟩)] w (Res w (ksC y).vs) := by
  obtain ⟨A, c, q0, q1, hA⟩ := mem_Sack h
  have HI := hidH hA
  have HQ := hidH (And.intro q0 q1)
  have hnI : (y.Gaps.length : Int) ≤ 200 := by omega
  have K1 := (Blk.new w 28 #[.int .i64 0, .int .i64 0, .slice none 0 0]).below (Below.refl _ _).drew
  have B1 := (bal (Below.refl w.heap.size w) (.cells #[.int .i64 0, .int .i64 0, .slice none 0 0] 28)).drew
  have HK := hidH K1
  have HB := hidH B1
  have HS := hidH (show (w.alloc (.cells #[.int .i64 0, .int .i64 0, .slice none 0 0] 28)).drew.heap.size = w.heap.size + 1 by show (World.alloc _ _).heap.size = _; simp only [World.size_alloc])
  have HOK := hidH (fun (j : Nat) (hj : j < y.Gaps.length) => okGaps_get _ _ hok j hj)
  have HN := hidH hn
  clear h hA q0 q1 K1 B1 hok hn
  go_enter Tryd.func67, Tryd.ntmps67
  go_wp2_with fail
  refine wp_region_any (by kernel_rfl) ?_
  refine regS1 _ _ _ _ g o w.heap.size y A c w _ ht0 ht1 hnI HQ.out.1 HQ.out.2 hg HB.out.size HK.out.lt (by kernel_rfl) (by kernel_rfl) (by kernel_rfl) rfl (fun h => h) (fun h => h) (fun h => h) (fun h => h) HB.out (Nat.le_refl _) HK.out ?_
  intros
  rename_i t3 W hO hS hR h12 h15
  obtain ⟨R2, rfl, hR2, hC2⟩ := h15
  rw [HS.out] at h12 hS hR2
  obtain ⟨A4, c4, e4, _⟩ := own_ob (d := pk y.Cum ++ [(y.Gaps.length : Int)]) h12
  have e4 : _ = Value.slice A4 5 c4 := e4
  subst e4
  have O12 := hidH h12
  have HC2 := hidH hC2
  have HR2 := hidH hR2
  have HO := hidH hO
  have HR := hidH hR
  have hne : w.heap.size ≠ R2 := by omega
  clear h12 hO hS hR HK HB HS hR2 hC2
  go_wp2_with fail
  go_loopw [4] (fun i wr => ∃ (j : Nat) (A4 : Option Addr) (c4 : Nat), j ≤ y.Gaps.length ∧ i = .int .i64 j ∧ wr.ownsRow (w.heap.size + 1) 5 1 (.slice A4 (5 + j * 4) c4) (5 + j * 4) ((pk y.Cum ++ ((y.Gaps.length : Int) :: (y.Gaps.take j).flatMap gapL)).map (Value.int .u8)) ∧ Below w.heap.size w wr ∧ w.heap.size + 1 ≤ wr.heap.size ∧ Blk wr w.heap.size 28 #[.int .i64 0, .int .i64 0, .slice none 0 0] ∧ Blk wr R2 28 #[.int .i64 3, .int .i64 0, .slice A4 (5 + j * 4) c4]) (fun i _ => y.Gaps.length - (intOf i).toNat)
  case atStart => exact ⟨0, A4, c4, by omega, rfl, by simpa using O12.out, HO.out, HR.out.lt, HR.out, HC2.out⟩
  case round =>
    obtain ⟨j, A4, c4, hj, rfl, hown, hB, hsz, hR, hC⟩ := hrel
    have q1 := (hB.cell (p := ⟨g, o + 1, none⟩) hg).trans HQ.out.2
    by_cases hlt : j < y.Gaps.length
    · have hj0 : (0 : Int) ≤ (j : Int) := by omega
      have hj1 : (j : Int) < (y.Gaps.length : Int) := by omega
      obtain ⟨gb, ob, cb, eb, hgb, RB⟩ := Rd.row (f := GapM.vs) (W := 2) (fun _ => rfl) HI.out hlt
      injection eb with eb1 eb2 eb3
      subst eb1 eb3
      obtain ⟨u0, p0, t0⟩ := RB 0 (.int y.Gaps[j].From) rfl
      obtain ⟨u1, p1, t1⟩ := RB 1 (.int y.Gaps[j].To) rfl
      have e0 := t0.int_out
      have e1 := t1.int_out
      subst e0 e1
      rw [Nat.add_zero] at p0
      obtain ⟨⟨k0, k1⟩, a0, a1⟩ := HOK.out j hlt
      have ht : (y.Gaps.take (j + 1)).flatMap gapL = (y.Gaps.take j).flatMap gapL ++ (pairL y.Gaps[j].From ++ pairL y.Gaps[j].To) := by
        rw [List.take_add_one, List.getElem?_eq_getElem hlt, Option.toList_some, List.flatMap_append]
        simp [gapL]
      have HT := hidH ht
      have OW := hidH (own_below0 hown (Below.refl _ _).drew)
      have RW := hidH (hR.below (Below.refl _ _).drew)
      have CW := hidH (hC.below (Below.refl _ _).drew)
      have BW := hidH hB.drew
      have ZW := hidH (show w.heap.size + 1 ≤ wr.drew.heap.size from hsz)
      have P0 := hidH p0
      have P1 := hidH p1
      clear RB t0 t1 ht hown hR hB hsz p0 p1 hC
      go_wp2_with fail
      refine wp_region_any (by kernel_rfl) ?_
      refine regS5 _ _ _ _ _ _ _ _ _ _ _ _ _ _ _ _ _ _ _ _ _ _ _ _ _ _ _ _ _ _ _ _ _ _ _ _ _ _ _ _ _ _ _ _ _ _ _ _ _ _ g o w.heap.size R2 (w.heap.size + 1) (5 + j * 4) j gb ob _ _ y c A4 c4 w k0 k1 a0 a1 (by have := HN.out; omega) hj1 hj0 HQ.out.2 P0.out P1.out hg hgb (by omega) (by have := HR2.out; omega) (by omega) (by kernel_rfl) (by kernel_rfl) (by kernel_rfl) rfl (fun h => h) (fun h => h) (fun h => h) (fun h => h) (fun h => h) (fun h => h) (fun h => h) (fun h => h) (fun h => h) (fun h => h) (fun h => h) BW.out ZW.out RW.out (fun _ => CW.out) (fun _ => OW.out) ?_
      intros
      rename_i t49 t50 W2 hO2 hS2 hR2' h21 h23
      obtain ⟨A5, m5, c5, e5⟩ := own_slice h21
      have hm5 : m5 = 5 + (j + 1) * 4 := by
        rcases h21.2 with ⟨h1, h2⟩ | ⟨g1, cap, cur, h1, _⟩
        · rw [e5] at h1; injection h1; omega
        · rw [e5] at h1; injection h1; omega
      subst hm5
      subst e5
      have HO2 := hidH hO2
      have HS2 := hidH hS2
      have HRR2 := hidH hR2'
      have HC3 := hidH h23
      have H21 := hidH (show W2.ownsRow (w.heap.size + 1) 5 1 (.slice A5 (5 + (j + 1) * 4) c5) (5 + (j + 1) * 4) ((pk y.Cum ++ ((y.Gaps.length : Int) :: (y.Gaps.take (j + 1)).flatMap gapL)).map (Value.int .u8)) by
        have h22 := h21
        rw [show 5 + j * 4 + 4 = 5 + (j + 1) * 4 by omega] at h22
        rw [HT.out]
        simpa [pairL] using h22)
      clear hO2 hS2 hR2' h21 h23
      go_wp2
      go_roundw
      case rel => exact ⟨j + 1, A5, c5, by omega, by go_num, H21.out, HO2.out, HS2.out, HRR2.out, HC3.out⟩
      case measure => simp [intOf]; omega
    · obtain rfl : j = y.Gaps.length := by omega
      rw [List.take_length] at hown
      obtain ⟨L, hL⟩ : ∃ L, pk y.Cum ++ ((y.Gaps.length : Int) :: y.Gaps.flatMap gapL) = L := ⟨_, rfl⟩
      have hl : L.length = 5 + y.Gaps.length * 4 := by
        rw [← hL, List.length_append, List.length_cons, gap_len]
        simp [pk]
        omega
      rw [hL, ← hl] at hown
      rw [← hl] at hC
      obtain ⟨A5, c5, e5, ob5, k5, m5⟩ := own_ob hown
      injection e5 with e51 e52 e53
      subst e51 e53
      obtain ⟨n9, hn9⟩ : ∃ n9, L.length = n9 := ⟨_, rfl⟩
      have HL := hidH (show (ksC y).Body = L from hL)
      have HOB := hidH (show OwV (w.heap.size + 1) wr.heap.size wr (.bs L) (.slice A4 n9 c4) by rw [← hn9]; exact ob5.owv (Nat.le_refl _) ⟨k5, m5⟩)
      rw [hn9] at hC
      have x0 := hR.cell 0
      have x1 := hR.cell 1
      have x2 := hR.cell 2
      have f0 := hR.frozen 0
      have f1 := hR.frozen 1
      have f2 := hR.frozen 2
      have y0 := hC.cell 0
      have y1 := hC.cell 1
      have y2 := hC.cell 2
      simp only [List.getElem?_toArray, List.getElem?_cons_succ, List.getElem?_cons_zero] at x0 x1 x2 y0 y1 y2
      have hr := hR.lt
      have hr2 := hC.lt
      have HBW := hidH hB
      clear hown hB hlt hj hR hL hl ob5 k5 m5 hC hn9
      go_wp2
      exact bodyPost_ret (v := .agg #[.int .i64 3, .int .i64 0, .slice A4 n9 c4]) (by simp [results, Tryd.results67, go_sem, x0, x1, x2]) rfl ⟨_, rfl, by
        show OwN _ _ _ [.int 3, .int 0, .bs (ksC y).Body] _
        rw [HL.out]
        refine OwN.int 3 (OwN.int 0 ((OwN.cons (B := w.heap.size + 1) (C := wr.heap.size) (D := wr.heap.size) ?_ (OwN.nil (by simp [World.setCell])) (by omega) (Nat.le_refl _)).mono (by omega) (by simp [World.setCell]) (Nat.le_refl _)))
        iterate 3 (refine OwV.win (B' := w.heap.size) (C' := w.heap.size + 1) ?_ (set_win _ _ _ _) (.inr (by omega)))
        exact HOB.out, bst (bst (bst HBW.out (Nat.le_refl _) _) (Nat.le_refl _) _) (Nat.le_refl _) _⟩
set_option maxRecDepth 100000 in
set_option maxHeartbeats 2000000 in
theorem ks_spec (y : SackM) (vs : List Value) (u : World) (h : RdA u y.vs vs) (hw : WfA y.vs) (ht : tot.totL y.vs ≤ 1048576) : Calls Tryd.prog 17 #[.agg vs.toArray] u (Res u (ksR y).vs) := by
  obtain ⟨A1, c1, rfl⟩ := shape_Sack h
  have K1 := (Blk.new u 34 #[.int .i64 y.Cum, .slice A1 y.Gaps.length c1]).alloc (.cells #[.int .i64 0, .int .i64 0, .int .i64 0, .slice none 0 0] 30)
  have R1 := Blk.new (u.alloc (.cells #[.int .i64 y.Cum, .slice A1 y.Gaps.length c1] 34)) 30 #[.int .i64 0, .int .i64 0, .int .i64 0, .slice none 0 0]
  have B1 := bal (bal (Below.refl u.heap.size u) (.cells #[.int .i64 y.Cum, .slice A1 y.Gaps.length c1] 34)) (.cells #[.int .i64 0, .int .i64 0, .int .i64 0, .slice none 0 0] 30)
  rw [World.size_alloc] at R1
  obtain ⟨w1, hw1⟩ : ∃ w1, (u.alloc (.cells #[.int .i64 y.Cum, .slice A1 y.Gaps.length c1] 34)).alloc (.cells #[.int .i64 0, .int .i64 0, .int .i64 0, .slice none 0 0] 30) = w1 := ⟨_, rfl⟩
  rw [hw1] at K1 R1 B1
  have hlt := K1.lt
  have M1 : RdL w1 y.vs u.heap.size 0 := RdL.of_cells (RdA.below B1 h) (fun k hk => by rw [Nat.zero_add, K1.cell]; exact arr_get _ k)
  have HW1 := hidH hw1
  have HM := hidH M1
  have HB := hidH B1
  have HR := hidH R1
  have HWF := hidH hw
  have HT := hidH ht
  clear hw1 h K1 R1 B1 M1 hw ht
  go_enter Tryd.func17, Tryd.ntmps17
  go_wp2_with fail
  rw [HW1.out]
  refine (ksF_any u.heap.size 0 y w1 HM.out).mono ?_
  rintro e w3 ⟨rfl, b3⟩
  have HM3 := hidH (RdL.below b3 _ hlt HM.out)
  have HB3 := hidH (btr HB.out b3)
  have HR3 := hidH (HR.out.below b3)
  have hlt3 := Nat.lt_of_lt_of_le hlt b3.size
  clear HM HB HR b3 HW1 hlt
  by_cases hz : ksF y = 0
  · have HZ := hidH hz
    have HC := hidH (l5Sack_any u.heap.size 0 y w3 hlt3 HM3.out (ksF_zero hz).1.1 (ksF_zero hz).1.2 (by have := (ksF_zero hz).2.1; omega) (ksF_zero hz).2.2)
    rw [hz]
    clear hz HM3 hlt3
    go_wp2_with fail
    refine HC.out.mono ?_
    rintro e w4 ⟨vs, rfl, O4, b4⟩
    obtain ⟨A9, c9, rfl⟩ := shape_Chunk O4.rd
    have R4 := HR3.out.below b4
    have hr3 := HR3.out.lt
    have x0 := R4.cell 0
    have x1 := R4.cell 1
    have x2 := R4.cell 2
    have x3 := R4.cell 3
    have f0 := R4.frozen 0
    have f1 := R4.frozen 1
    have f2 := R4.frozen 2
    have f3 := R4.frozen 3
    simp only [List.getElem?_toArray, List.getElem?_cons_succ, List.getElem?_cons_zero] at x0 x1 x2 x3
    have hr := R4.lt
    have HO := hidH O4
    have HB4 := hidH (btr HB3.out b4)
    clear R4 O4 b4 HC
    go_wp2
    have PF : ∀ a b c' d : Value, OwN u.heap.size ((((w4.setCell ⟨u.heap.size + 1, 0, none⟩ a).setCell ⟨u.heap.size + 1, 1, none⟩ b).setCell ⟨u.heap.size + 1, 2, none⟩ c').setCell ⟨u.heap.size + 1, 3, none⟩ d).heap.size ((((w4.setCell ⟨u.heap.size + 1, 0, none⟩ a).setCell ⟨u.heap.size + 1, 1, none⟩ b).setCell ⟨u.heap.size + 1, 2, none⟩ c').setCell ⟨u.heap.size + 1, 3, none⟩ d) _ _ := fun a b c' d =>
      OwN.int 0 (((((HO.out.win (set_win _ (u.heap.size + 1) 0 a) (.inr (by omega))).win (set_win _ (u.heap.size + 1) 1 b) (.inr (by omega))).win (set_win _ (u.heap.size + 1) 2 c') (.inr (by omega))).win (set_win _ (u.heap.size + 1) 3 d) (.inr (by omega))).mono (by omega) (by simp [World.setCell]) (Nat.le_refl _))
    exact bodyPost_ret (v := .agg #[.int .i64 0, .int .i64 (ksC y).Kind, .int .i64 (ksC y).Flags, .slice A9 (ksC y).Body.length c9]) (by simp [results, Tryd.results17, go_sem, x0, x1, x2, x3]) rfl ⟨_, rfl, by
      have e : (ksR y).vs = .int 0 :: (ksC y).vs := by rw [ksR, crOf, if_pos HZ.out]; rfl
      rw [e]
      exact PF _ _ _ _, bst (bst (bst (bst HB4.out (Nat.le_succ _) _) (Nat.le_succ _) _) (Nat.le_succ _) _) (Nat.le_succ _) _⟩
  · have hne : (ksF y != 0) = true := by rw [bne_iff_ne]; exact hz
    have HZ := hidH hz
    obtain ⟨F, hF⟩ : ∃ F, ksF y = F := ⟨_, rfl⟩
    have HF := hidH hF
    rw [hF] at hne ⊢
    clear hz hF HM3
    go_wp2_with fail
    refine (l5Bad_any F w3).mono ?_
    rintro e w4 ⟨rfl, h4⟩
    have b4 : Below w3.heap.size w3 w4 := by rw [← h4]; exact bal (Below.refl _ _) _
    have R4 := HR3.out.below b4
    have HB4 := hidH (btr HB3.out b4)
    have x0 := R4.cell 0
    have x1 := R4.cell 1
    have x2 := R4.cell 2
    have x3 := R4.cell 3
    simp only [List.getElem?_toArray, List.getElem?_cons_succ, List.getElem?_cons_zero] at x0 x1 x2 x3
    have f0 := R4.frozen 0
    have f1 := R4.frozen 1
    have f2 := R4.frozen 2
    have f3 := R4.frozen 3
    have hr := R4.lt
    clear h4 b4 R4
    go_wp2
    exact bodyPost_ret (v := .agg #[.int .i64 F, .int .i64 0, .int .i64 0, .slice none 0 0]) (by simp [results, Tryd.results17, go_sem, x0, x1, x2, x3]) rfl ⟨_, rfl, by
      have e : (ksR y).vs = [.int F, .int 0, .int 0, .bs []] := by rw [ksR, crOf, if_neg HZ.out, HF.out]; rfl
      rw [e]
      exact (OwN.int F (OwN.int 0 (OwN.int 0 (OwN.empty _ (Nat.le_refl _))))), bst (bst (bst (bst HB4.out (Nat.le_succ _) _) (Nat.le_succ _) _) (Nat.le_succ _) _) (Nat.le_succ _) _⟩
end Go.Proofs.YtjjileefdjjijaaDoor
