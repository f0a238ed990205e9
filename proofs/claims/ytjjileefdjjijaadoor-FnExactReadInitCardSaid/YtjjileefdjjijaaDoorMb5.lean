import Derived.Test.YtjjileefdjjijaaDoorMb1
import Derived.Handy
import Derived.Test.YtjjileefdjjijaaDoorMb0
import Derived.Test.YtjjileefdjjijaaDoorMb2
import Derived.Test.YtjjileefdjjijaaDoorMb4
import Derived.Test.YtjjileefdjjijaaDoorMa6
import Derived.Test.YtjjileefdjjijaaDoorMa1
import Derived.BigQuiet

/- The program's Answer: fault. -/
namespace Go.Proofs.YtjjileefdjjijaaDoor
open Go.RowKit Go.Deep

set_option maxRecDepth 100000 in
set_option maxHeartbeats 8000000 in
theorem paF_impl (y : AnswerM) (vs : List Value) (w : World) (h : RdA w y.vs vs) :
    Calls Tryd.prog 176 #[.agg vs.toArray] w fun e w' => e = .returned (.int .i64 (paF y)) ∧ Below w.heap.size w w' := by
  obtain ⟨A, c, rfl⟩ := shape_Answer h
  have h' : RdA w [.int y.Serial, .is y.Codes] _ := h
  have hA := h'.tl.hd
  have hm : (y.Codes.length : Int) ≤ 9223372036854775807 := (hA.is_out).choose_spec.choose_spec.2.1.len
  have K1 := Blk.new w 63 #[.int .i64 y.Serial, .slice A y.Codes.length c]
  have B1 := bal (Below.refl w.heap.size w) (.cells #[.int .i64 y.Serial, .slice A y.Codes.length c] 63)
  obtain ⟨w1, hw1⟩ : ∃ w1, w.alloc (.cells #[.int .i64 y.Serial, .slice A y.Codes.length c] 63) = w1 := ⟨_, rfl⟩
  rw [hw1] at K1 B1
  have k0 := K1.cell 0
  have k1 := K1.cell 1
  simp only [List.getElem?_toArray, List.getElem?_cons_succ, List.getElem?_cons_zero] at k0 k1
  have hk := K1.lt
  have HI := hidH hA
  have HB := hidH B1
  clear h h' hA K1 B1
  by_cases h1 : wB y.Serial = true
  · by_cases h4 : y.Codes.length < 1
    · have e : paF y = 2 := by simp only [paF, h1, if_true]; rw [if_neg (by omega)]
      have h4' : ((y.Codes.length : Int) == 0) = true := by rw [beq_iff_eq]; omega
      rw [e]
      clear e h4
      go_enter Tryd.func176, Tryd.ntmps176
      go_wp2_with (first | (go_at_call 161; refine (isWord_any _ _).mono ?_; rintro e w' ⟨rfl, rfl⟩))
      go_ret
      exact ⟨rfl, HB.out⟩
    · have h4' : ((y.Codes.length : Int) == 0) = false := by rw [beq_eq_false_iff_ne]; omega
      by_cases h5 : 4 < y.Codes.length
      · have e : paF y = 2 := by simp only [paF, h1, if_true]; rw [if_neg (by omega)]
        have h5' : (4 : Int) < (y.Codes.length : Int) := by omega
        rw [e]
        clear e h4 h5
        go_enter Tryd.func176, Tryd.ntmps176
        go_wp2_with (first | (go_at_call 161; refine (isWord_any _ _).mono ?_; rintro e w' ⟨rfl, rfl⟩))
        go_ret
        exact ⟨rfl, HB.out⟩
      · have h5' : ¬ (4 : Int) < (y.Codes.length : Int) := by omega
        have e0 : paF y = if okCs y.Codes then 0 else 3 := by simp only [paF, h1, if_true]; rw [if_pos (by omega)]
        have HE := hidH e0
        have HX := hidH (isOf (Rd.below HB.out _ HI.out))
        clear e0 h4 h5
        go_enter Tryd.func176, Tryd.ntmps176
        go_wp2_with (first | (go_at_call 161; refine (isWord_any _ _).mono ?_; rintro e w' ⟨rfl, rfl⟩))
        go_loopw [22] (fun i wr => ∃ j : Nat, j ≤ y.Codes.length ∧ i = .int .i64 j ∧ wr = w1 ∧ ∀ k, k < j → inB (y.Codes.getD k 0) 0 20 = true) (fun i _ => y.Codes.length - (intOf i).toNat)
        case atStart => exact ⟨0, by omega, rfl, rfl, fun k hk => by omega⟩
        case round =>
          obtain ⟨j, hj, rfl, rfl, hk2⟩ := hrel
          by_cases hlt : j < y.Codes.length
          · have hj0 : (0 : Int) ≤ (j : Int) := by omega
            have hj1 : (j : Int) < (y.Codes.length : Int) := by omega
            obtain ⟨b, off, rfl, hcell⟩ : ∃ b off, A = some ⟨b, off, none⟩ ∧ wr.cell? ⟨b, off + j, none⟩ = some (.int .i64 (y.Codes.getD j 0)) := by
              rcases HX.out with h | ⟨b, off, e, _, h⟩
              · rw [h] at hlt; simp at hlt
              · exact ⟨b, off, e, h j hlt⟩
            have HK := hidH hk2
            obtain ⟨x, hx⟩ : ∃ x, y.Codes.getD j 0 = x := ⟨_, rfl⟩
            rw [hx] at hcell
            have HXX := hidH hx
            clear hk2 hx
            by_cases v0 : x < 0
            · have HNO := hidH (show paF y = 3 by
                rw [HE.out, if_neg]
                intro h
                have := h j hlt
                rw [HXX.out, inB_lo v0] at this
                cases this)
              go_wp2
              go_ret
              exact ⟨ret_int HNO.out.symm, HB.out⟩
            · by_cases v1 : 20 < x
              · have HNO := hidH (show paF y = 3 by
                  rw [HE.out, if_neg]
                  intro h
                  have := h j hlt
                  rw [HXX.out, inB_hi v1] at this
                  cases this)
                go_wp2
                go_ret
                exact ⟨ret_int HNO.out.symm, HB.out⟩
              · have HN := hidH (show ∀ k, k < j + 1 → inB (y.Codes.getD k 0) 0 20 = true from fun k hk => by
                  by_cases e : k = j
                  · subst e; rw [HXX.out]; exact inB_yes (by omega) (by omega)
                  · exact HK.out k (by omega))
                go_wp2
                go_roundw
                case rel => exact ⟨j + 1, by omega, by go_num, trivial, HN.out⟩
                case measure => simp [intOf]; omega
          · obtain rfl : j = y.Codes.length := by omega
            have HY := hidH (show paF y = 0 by rw [HE.out, if_pos (show okCs y.Codes from hk2)])
            clear hk2 hlt hj
            go_wp2
            go_ret
            exact ⟨ret_int HY.out.symm, HB.out⟩
  · have h1 : wB y.Serial = false := by simpa using h1
    have e : paF y = 3 := by simp [paF, h1]
    rw [e]
    clear e
    go_enter Tryd.func176, Tryd.ntmps176
    go_wp2_with (first | (go_at_call 161; refine (isWord_any _ _).mono ?_; rintro e w' ⟨rfl, rfl⟩))
    go_ret
    exact ⟨rfl, HB.out⟩
end Go.Proofs.YtjjileefdjjijaaDoor

/- The program's Answer: write. -/
namespace Go.Proofs.YtjjileefdjjijaaDoor
open Go.RowKit Go.Deep

set_option maxRecDepth 100000 in
set_option maxHeartbeats 2000000 in
theorem paW_impl (r : Nat) (y : AnswerM) (A : Option Addr) (c : Nat) (w0 w : World) (h : RdA w0 y.vs [.int .i64 y.Serial, .slice A y.Codes.length c]) (hb0 : Below w0.heap.size w0 w) (h0 : w0.heap.size ≤ r) (hr : WR w r []) (hf : paF y = 0) :
    Calls Tryd.prog 177 #[.agg #[.int .i64 y.Serial, .slice A y.Codes.length c], .pointer (some ⟨r, 0, none⟩)] w (Wrote r (paC y).Body w) := by
  obtain ⟨⟨a1, a2⟩, ⟨b1, b2⟩, hcs⟩ := paF_zero hf
  have h' : RdA w0 [.int y.Serial, .is y.Codes] _ := h
  have hA0 := isOf h'.tl.hd
  have HA := hidH (And.intro (is_below hA0 hb0) (is_lo0 hA0 h0))
  have HV := hidH (show ∀ j, j < y.Codes.length → 0 ≤ y.Codes.getD j 0 ∧ y.Codes.getD j 0 ≤ 255 from fun j hj => by have := hcs j hj; simp only [inB, Bool.and_eq_true, decide_eq_true_eq] at this; omega)
  have HRL := hidH hr.lt
  have K1 := Blk.new w 63 #[.int .i64 y.Serial, .slice A y.Codes.length c]
  have B1 := bal (Below.refl w.heap.size w) (.cells #[.int .i64 y.Serial, .slice A y.Codes.length c] 63)
  obtain ⟨w1, hw1⟩ : ∃ w1, w.alloc (.cells #[.int .i64 y.Serial, .slice A y.Codes.length c] 63) = w1 := ⟨_, rfl⟩
  rw [hw1] at K1 B1
  have hne : w.heap.size ≠ r := by have := hr.lt; omega
  have HW1 := hidH hw1
  have HN := hidH hne
  have HT := hidH (And.intro (hr.below B1) (And.intro (B1.mono (Nat.le_of_lt hr.lt)) (And.intro (OthK.of_below (r := r) B1) K1)))
  clear hw1 K1 B1 hne hr
  clear h h' hA0 hb0 h0 hf hcs
  go_enter Tryd.func177, Tryd.ntmps177
  have k0 := HT.out.2.2.2.cell 0
  simp only [List.getElem?_toArray, List.getElem?_cons_zero] at k0
  have hk := HT.out.2.2.2.lt
  have HP := hidH (wword_any r ([]) y.Serial w1 HT.out.1 a1 a2 (by simp))
  unfold Wrote at HP
  go_wp2_with fail
  rw [HW1.out]
  go_wp2_with fail
  refine HP.out.mono ?_
  rintro e w2 ⟨rfl, hw, hb, ho⟩
  replace HT := hidH (And.intro hw (And.intro (HT.out.2.1.trans hb) (And.intro (OthK.trans HT.out.2.2.1 ho) (ho _ _ _ HN.out (by decide) HT.out.2.2.2))))
  clear HP hw hb ho k0 hk
  have HAB := hidH (is_lo HA.out.1 HA.out.2 HT.out.2.1 HRL.out)
  have k1 := HT.out.2.2.2.cell 1
  simp only [List.getElem?_toArray, List.getElem?_cons_succ, List.getElem?_cons_zero] at k1
  have hk := HT.out.2.2.2.lt
  have HP := hidH (wnumbers_any r ([] ++ pk y.Serial) y.Codes A c w2 HT.out.1 HAB.out HA.out.2 HV.out (by simp [pk]) (by omega))
  unfold Wrote at HP
  go_wp2_with fail
  refine HP.out.mono ?_
  rintro e w3 ⟨rfl, hw, hb, ho⟩
  replace HT := hidH (And.intro hw (And.intro (HT.out.2.1.trans hb) (And.intro (OthK.trans HT.out.2.2.1 ho) (ho _ _ _ HN.out (by decide) HT.out.2.2.2))))
  clear HP hw hb ho k1 hk
  go_wp2
  exact bodyPost_ret (v := .tuple #[]) (by simp [results, Tryd.results177, go_sem]) rfl ⟨rfl, by simpa [paC] using HT.out.1, HT.out.2.1, HT.out.2.2.1⟩
end Go.Proofs.YtjjileefdjjijaaDoor

/- The program's Answer: emptyChunk, packContent. -/
namespace Go.Proofs.YtjjileefdjjijaaDoor
open Go.RowKit Go.Deep

set_option maxRecDepth 100000 in
set_option maxHeartbeats 2000000 in
theorem emptyW_any (y : AnswerM) (A1 : Option Addr) (c1 : Nat) (w : World) :
    Calls Tryd.prog 103 #[.iface 63 (.agg #[.int .i64 y.Serial, .slice A1 y.Codes.length c1])] w fun e w' => ∃ kk ff : Int, e = .returned (.agg #[.int .i64 kk, .int .i64 ff, .slice none 0 0]) ∧ kk = (paC y).Kind ∧ ff = (paC y).Flags ∧ Below w.heap.size w w' := by
  have tD := fun u => taWD (.agg #[.int .i64 y.Serial, .slice A1 y.Codes.length c1]) u
  have tS := fun u => taWS (.agg #[.int .i64 y.Serial, .slice A1 y.Codes.length c1]) u
  have tG := fun u => taWG (.agg #[.int .i64 y.Serial, .slice A1 y.Codes.length c1]) u
  have tQ := fun u => taWQ (.agg #[.int .i64 y.Serial, .slice A1 y.Codes.length c1]) u
  have tW := fun u => taWW (.agg #[.int .i64 y.Serial, .slice A1 y.Codes.length c1]) u
  go_enter Tryd.func103, Tryd.ntmps103
  go_wp2
  exact bodyPost_ret (v := .agg #[.int .i64 (128), .int .i64 (0), .slice none 0 0]) (by simp [results, Tryd.results103, go_sem]) rfl ⟨_, _, rfl, rfl, rfl, bal (bal (bal (Below.refl _ _) _) _) _⟩
set_option maxRecDepth 100000 in
set_option maxHeartbeats 4000000 in
theorem pcW_any (y : AnswerM) (A1 : Option Addr) (c1 : Nat) (w : World) (h : RdA w y.vs [.int .i64 y.Serial, .slice A1 y.Codes.length c1]) :
    Calls Tryd.prog 59 #[.iface 63 (.agg #[.int .i64 y.Serial, .slice A1 y.Codes.length c1])] w (Res w (paR y).vs) := by
  have K1 := Blk.new w 30 #[.int .i64 0, .int .i64 0, .int .i64 0, .slice none 0 0]
  have B1 := bal (Below.refl w.heap.size w) (.cells #[.int .i64 0, .int .i64 0, .int .i64 0, .slice none 0 0] 30)
  obtain ⟨w1, hw1⟩ : ∃ w1, w.alloc (.cells #[.int .i64 0, .int .i64 0, .int .i64 0, .slice none 0 0] 30) = w1 := ⟨_, rfl⟩
  rw [hw1] at K1 B1
  have HF := hidH (paF_impl y [.int .i64 y.Serial, .slice A1 y.Codes.length c1] w1 (RdA.below B1 h))
  have HRD := hidH h
  have HT := hidH (And.intro K1 B1)
  clear h K1 B1
  go_enter Tryd.func59, Tryd.ntmps59
  go_wp2_with fail
  refine HF.out.mono ?_
  rintro e w3 ⟨rfl, b3⟩
  replace HT := hidH (And.intro (HT.out.1.below b3) (btr HT.out.2 b3))
  clear HF b3 hw1
  by_cases hz : paF y = 0
  · have HZ := hidH hz
    rw [hz]
    have KR := Blk.new w3 148 #[.slice none 0 0]
    have B4 := bal (Below.refl w3.heap.size w3) (.cells #[.slice none 0 0] 148)
    obtain ⟨w4, hw4⟩ : ∃ w4, w3.alloc (.cells #[.slice none 0 0] 148) = w4 := ⟨_, rfl⟩
    rw [hw4] at KR B4
    have hRl := HT.out.1.lt
    have HW := hidH (paW_impl w3.heap.size y A1 c1 w w4 HRD.out (btr HT.out.2 B4) HT.out.2.size (wr_nil KR) hz)
    unfold Wrote at HW
    obtain ⟨L, hL⟩ : ∃ L, (paC y).Body = L := ⟨_, rfl⟩
    rw [hL] at HW
    have HL := hidH hL
    replace HT := hidH (And.intro (HT.out.1.below B4) (btr HT.out.2 B4))
    have HR := hidH hRl
    clear hz KR B4 hRl hL
    go_wp2_with fail
    refine HW.out.mono ?_
    rintro e w5 ⟨rfl, hw, hb, _⟩
    replace HT := hidH (And.intro (show Blk w5 w.heap.size 30 _ from (hb.block _ HR.out).trans HT.out.1) (HT.out.2.trans (hb.mono (Nat.le_of_lt HR.out))))
    have HE := hidH (emptyW_any y A1 c1 w5)
    have HWR := hidH hw
    clear HW hw hb hw4
    go_wp2_with fail
    refine HE.out.mono ?_
    rintro e w6 ⟨kk, ff, rfl, hkk, hff, b6⟩
    have HKF := hidH (And.intro hkk hff)
    clear hkk hff
    obtain ⟨v, KW, OW⟩ := HWR.out.below b6
    obtain ⟨A9, c9, e9, ob9, k9, m9⟩ := own_ob OW
    subst e9
    have hs6 := KW.lt
    have K6 := HT.out.1.below b6
    have HB6 := hidH (HT.out.2.trans (b6.mono HT.out.2.size))
    have B7 := bal (Below.refl w6.heap.size w6) (.cells #[.int .i64 kk, .int .i64 ff, .slice none 0 0] 28)
    have K7 := Blk.new w6 28 #[.int .i64 kk, .int .i64 ff, .slice none 0 0]
    have KW7 := KW.below B7
    have KR7 := K6.below B7
    obtain ⟨n9, hn9⟩ : ∃ n, L.length = n := ⟨_, rfl⟩
    have HOB := hidH (show OwV (w3.heap.size + 1) w6.heap.size (w6.alloc (.cells #[.int .i64 kk, .int .i64 ff, .slice none 0 0] 28)) (.bs L) (.slice A9 n9 c9) by rw [← hn9]; exact (ob9.owv (Nat.le_refl _) ⟨k9, m9⟩).below B7)
    rw [hn9] at KW7
    have x0 := KR7.cell 0
    have x1 := KR7.cell 1
    have x2 := KR7.cell 2
    have x3 := KR7.cell 3
    have f0 := KR7.frozen 0
    have f1 := KR7.frozen 1
    have f2 := KR7.frozen 2
    have f3 := KR7.frozen 3
    have y0 := K7.cell 0
    have y1 := K7.cell 1
    have y2 := K7.cell 2
    have g2 := K7.frozen 2
    have z0 := KW7.cell 0
    simp only [List.getElem?_toArray, List.getElem?_cons_succ, List.getElem?_cons_zero] at x0 x1 x2 x3 y0 y1 y2 z0
    have l1 := KR7.lt
    have l2 := K7.lt
    have l3 := KW7.lt
    have HB7 := hidH (btr HB6.out B7)
    obtain ⟨w7, hw7⟩ : ∃ w7, w6.alloc (.cells #[.int .i64 kk, .int .i64 ff, .slice none 0 0] 28) = w7 := ⟨_, rfl⟩
    rw [hw7] at x0 x1 x2 x3 f0 f1 f2 f3 y0 y1 y2 g2 z0 l1 l2 l3 HB7 HOB
    have HS := hidH (And.intro hs6 (And.intro K6.lt HR.out))
    have ne1 : w.heap.size ≠ w6.heap.size := by have := K6.lt; omega
    have ne2 : w3.heap.size ≠ w6.heap.size := by omega
    have ne3 : w3.heap.size ≠ w.heap.size := by have := HR.out; omega
    clear HE HWR b6 KW OW ob9 k9 m9 hs6 K6 B7 K7 KW7 KR7 hn9 HB6
    go_wp2
    have hle : w.heap.size ≤ w6.heap.size := by have := HS.out; omega
    exact bodyPost_ret (v := .agg #[.int .i64 0, .int .i64 kk, .int .i64 ff, .slice A9 n9 c9]) (by simp [results, Tryd.results59, go_sem, x0, x1, x2, x3]) rfl ⟨_, rfl, by
      have e : (paR y).vs = [.int 0, .int kk, .int ff, .bs L] := by rw [paR, crOf, if_pos HZ.out, ← HL.out, HKF.out.1, HKF.out.2]; rfl
      rw [e]
      refine OwN.int 0 (OwN.int _ (OwN.int _ ((OwN.cons (B := w3.heap.size + 1) (C := w6.heap.size) (D := w6.heap.size) ?_ (OwN.nil (by simp [World.setCell]; omega)) (by have := HS.out; omega) (Nat.le_refl _)).mono (by have := HS.out; omega) (by simp [World.setCell]; omega) (Nat.le_refl _))))
      iterate 4 (refine OwV.win (B' := w.heap.size) (C' := w.heap.size + 1) ?_ (set_win _ _ _ _) (.inr (by have := HS.out; omega)))
      repeat (refine OwV.win (B' := w6.heap.size) (C' := w6.heap.size + 1) ?_ (set_win _ _ _ _) (.inl (Nat.le_refl _)))
      exact HOB.out, by
      repeat (refine bst ?_ (by first | exact Nat.le_refl _ | exact hle) _)
      exact HB7.out⟩
  · have hne : (paF y != 0) = true := by rw [bne_iff_ne]; exact hz
    have HZ := hidH hz
    obtain ⟨F, hF⟩ : ∃ F, paF y = F := ⟨_, rfl⟩
    have HEQ := hidH hF
    rw [hF] at hne ⊢
    have x0 := HT.out.1.cell 0
    have x1 := HT.out.1.cell 1
    have x2 := HT.out.1.cell 2
    have x3 := HT.out.1.cell 3
    simp only [List.getElem?_toArray, List.getElem?_cons_succ, List.getElem?_cons_zero] at x0 x1 x2 x3
    have f0 := HT.out.1.frozen 0
    have f1 := HT.out.1.frozen 1
    have f2 := HT.out.1.frozen 2
    have f3 := HT.out.1.frozen 3
    have hr := HT.out.1.lt
    clear hz hF
    go_wp2
    exact bodyPost_ret (v := .agg #[.int .i64 F, .int .i64 0, .int .i64 0, .slice none 0 0]) (by simp [results, Tryd.results59, go_sem, x0, x1, x2, x3]) rfl ⟨_, rfl, by
      have e : (paR y).vs = [.int F, .int 0, .int 0, .bs []] := by rw [paR, crOf, if_neg HZ.out, HEQ.out]; rfl
      rw [e]
      exact (OwN.int F (OwN.int 0 (OwN.int 0 (OwN.empty _ (Nat.le_refl _))))), bst (bst (bst (bst HT.out.2 (Nat.le_refl _) _) (Nat.le_refl _) _) (Nat.le_refl _) _) (Nat.le_refl _) _⟩
set_option maxRecDepth 100000 in
set_option maxHeartbeats 2000000 in
theorem pa_impl (y : AnswerM) (vs : List Value) (u : World) (h : RdA u y.vs vs) (_ : WfA y.vs) (_ : tot.totL y.vs ≤ 1048576) : Calls Tryd.prog 28 #[.agg vs.toArray] u (Res u (paR y).vs) := by
  obtain ⟨A1, c1, rfl⟩ := shape_Answer h
  have K1 := (Blk.new u 63 #[.int .i64 y.Serial, .slice A1 y.Codes.length c1]).alloc (.cells #[.int .i64 0, .int .i64 0, .int .i64 0, .slice none 0 0] 30)
  have R1 := Blk.new (u.alloc (.cells #[.int .i64 y.Serial, .slice A1 y.Codes.length c1] 63)) 30 #[.int .i64 0, .int .i64 0, .int .i64 0, .slice none 0 0]
  have B1 := bal (bal (Below.refl u.heap.size u) (.cells #[.int .i64 y.Serial, .slice A1 y.Codes.length c1] 63)) (.cells #[.int .i64 0, .int .i64 0, .int .i64 0, .slice none 0 0] 30)
  rw [World.size_alloc] at R1
  obtain ⟨w1, hw1⟩ : ∃ w1, (u.alloc (.cells #[.int .i64 y.Serial, .slice A1 y.Codes.length c1] 63)).alloc (.cells #[.int .i64 0, .int .i64 0, .int .i64 0, .slice none 0 0] 30) = w1 := ⟨_, rfl⟩
  rw [hw1] at K1 R1 B1
  have HC := hidH (pcW_any y A1 c1 w1 (RdA.below B1 h))
  have HT := hidH (And.intro R1 B1)
  have k0 := K1.cell 0
  have k1 := K1.cell 1
  simp only [List.getElem?_toArray, List.getElem?_cons_succ, List.getElem?_cons_zero] at k0 k1
  have hlt := K1.lt
  obtain ⟨z, hz⟩ : ∃ z, paR y = z := ⟨_, rfl⟩
  rw [hz] at HC ⊢
  clear h K1 R1 B1 hz
  go_enter Tryd.func28, Tryd.ntmps28
  go_wp2_with fail
  refine HC.out.mono ?_
  rintro e w3 ⟨vs, rfl, O3, b3⟩
  obtain ⟨A9, c9, rfl⟩ := shape_ChunkResult O3.rd
  have R4 := HT.out.1.below b3
  have x0 := R4.cell 0
  have x1 := R4.cell 1
  have x2 := R4.cell 2
  have x3 := R4.cell 3
  have f0 := R4.frozen 0
  have f1 := R4.frozen 1
  have f2 := R4.frozen 2
  have f3 := R4.frozen 3
  simp only [List.getElem?_toArray, List.getElem?_cons_succ, List.getElem?_cons_zero] at x0 x1 x2 x3
  have hr := R4.lt
  have hr1 := HT.out.1.lt
  have HO := hidH O3
  have HB := hidH (btr HT.out.2 b3)
  clear HC O3 b3 R4 k0 k1 hlt
  go_wp2
  have PF : ∀ a b c' e : Value, OwN u.heap.size ((((w3.setCell ⟨u.heap.size + 1, 0, none⟩ a).setCell ⟨u.heap.size + 1, 1, none⟩ b).setCell ⟨u.heap.size + 1, 2, none⟩ c').setCell ⟨u.heap.size + 1, 3, none⟩ e).heap.size ((((w3.setCell ⟨u.heap.size + 1, 0, none⟩ a).setCell ⟨u.heap.size + 1, 1, none⟩ b).setCell ⟨u.heap.size + 1, 2, none⟩ c').setCell ⟨u.heap.size + 1, 3, none⟩ e) z.vs _ := fun a b c' e =>
    ((((HO.out.win (set_win _ (u.heap.size + 1) 0 a) (.inr (by omega))).win (set_win _ (u.heap.size + 1) 1 b) (.inr (by omega))).win (set_win _ (u.heap.size + 1) 2 c') (.inr (by omega))).win (set_win _ (u.heap.size + 1) 3 e) (.inr (by omega))).mono (by omega) (by simp [World.setCell]) (Nat.le_refl _)
  exact bodyPost_ret (v := .agg #[.int .i64 z.Code, .int .i64 z.Chunk_Kind, .int .i64 z.Chunk_Flags, .slice A9 z.Chunk_Body.length c9]) (by simp [results, Tryd.results28, go_sem, x0, x1, x2, x3]) rfl ⟨_, rfl, PF _ _ _ _, bst (bst (bst (bst HB.out (Nat.le_succ _) _) (Nat.le_succ _) _) (Nat.le_succ _) _) (Nat.le_succ _) _⟩
end Go.Proofs.YtjjileefdjjijaaDoor

/- What the reader reads, packed again: the two halves of contentOf, for every kind. -/
namespace Go.Proofs.YtjjileefdjjijaaDoor
open Go.RowKit Go.Deep

theorem OwN.nobs {B C : Nat} {w : World} {xs : List V} {vs : List Value} (h : OwN B C w xs vs) : OwN B C w (.bs [] :: xs) (.slice none 0 0 :: vs) :=
  ⟨h.1, by unfold OwA; exact ⟨fun _ _ => False, _, by unfold Ow; exact ⟨none, 0, rfl, ⟨Nat.le_refl _, by simp⟩, .inl rfl⟩, h.2, fun _ _ x => x.elim, Sub.refl _, fun _ _ x => x.elim⟩⟩
theorem OwN.nois {B C : Nat} {w : World} {xs : List V} {vs : List Value} (h : OwN B C w xs vs) : OwN B C w (.is [] :: xs) (.slice none 0 0 :: vs) :=
  ⟨h.1, by unfold OwA; exact ⟨fun _ _ => False, _, by unfold Ow; exact ⟨none, 0, rfl, ⟨Nat.le_refl _, by simp⟩, .inl rfl⟩, h.2, fun _ _ x => x.elim, Sub.refl _, fun _ _ x => x.elim⟩⟩
theorem OwN.nost {B C : Nat} {w : World} {xs : List V} {vs : List Value} (h : OwN B C w xs vs) : OwN B C w (.st 0 [] :: xs) (.slice none 0 0 :: vs) :=
  ⟨h.1, by unfold OwA; exact ⟨fun _ _ => False, _, by unfold Ow; exact ⟨none, 0, rfl, ⟨Nat.le_refl _, by simp⟩, .inl ⟨rfl, rfl⟩⟩, h.2, fun _ _ x => x.elim, Sub.refl _, fun _ _ x => x.elim⟩⟩
theorem pk_b {a : Int} (h : 0 ≤ a ∧ a ≤ 4294967295) : Bytes (pk a) := by
  intro x hx; simp only [pk, List.mem_cons, List.not_mem_nil, or_false] at hx; omega
theorem pairL_b {a : Int} (h : 0 ≤ a ∧ a ≤ 65535) : Bytes (pairL a) := by
  intro x hx; simp only [pairL, List.mem_cons, List.not_mem_nil, or_false] at hx; omega
theorem app_b {l m : List Int} (h : Bytes l) (k : Bytes m) : Bytes (l ++ m) := fun x hx => (List.mem_append.1 hx).elim (h x) (k x)
theorem cons_b {a : Int} {m : List Int} (h : 0 ≤ a ∧ a ≤ 255) (k : Bytes m) : Bytes (a :: m) := fun x hx => by
  rcases List.mem_cons.1 hx with rfl | hx
  · exact h
  · exact k x hx
theorem crOf_b {f : Int} {c : ChunkM} (h : f = 0 → Bytes c.Body) : Bytes (crOf f c).Chunk_Body := by
  unfold crOf
  split
  · next h1 => exact h h1
  · intro x hx; cases hx
theorem pdR_b {y : DataM} (h : Bytes y.Piece) : Bytes (pdR y).Chunk_Body := crOf_b fun hz => by
  obtain ⟨a, b, c, _⟩ := pdF_zero hz
  exact app_b (app_b (app_b (pk_b a) (pairL_b ⟨b.1, by omega⟩)) (pairL_b c)) h
theorem gaps_b : ∀ (r : List GapM) (a : Int), 0 ≤ a → okGaps a r = true → Bytes (r.flatMap gapL)
  | [], _, _, _ => fun x hx => by cases hx
  | x :: r, a, ha, h => by
    rw [okGaps_cons] at h
    simp only [inB, Bool.and_eq_true, decide_eq_true_eq] at h
    rw [List.flatMap_cons]
    exact app_b (app_b (pairL_b (by omega)) (pairL_b (by omega))) (gaps_b r x.To (by omega) h.2)
theorem ksR_b {y : SackM} : Bytes (ksR y).Chunk_Body := crOf_b fun hz => by
  obtain ⟨a, b, c⟩ := ksF_zero hz
  exact app_b (pk_b a) (cons_b (by omega) (gaps_b _ 0 (by omega) c))
theorem ops_b : ∀ (r : List AddrOpM), r.all okOp = true → Bytes (r.flatMap opL)
  | [], _ => fun x hx => by cases hx
  | x :: r, h => by
    rw [List.all_cons, Bool.and_eq_true] at h
    have h1 := h.1
    simp only [okOp, inB, Bool.and_eq_true, decide_eq_true_eq] at h1
    rw [List.flatMap_cons]
    exact app_b (cons_b (by omega) (cons_b (by omega) (fun x hx => by cases hx))) (ops_b r h.2)
theorem qaR_b {y : AsconfM} : Bytes (qaR y).Chunk_Body := crOf_b fun hz => by
  obtain ⟨a, b, c⟩ := qaF_zero hz
  exact app_b (pk_b a) (cons_b (by omega) (ops_b _ c))
theorem paR_b {y : AnswerM} : Bytes (paR y).Chunk_Body := crOf_b fun hz => by
  obtain ⟨a, b, c⟩ := paF_zero hz
  refine app_b (pk_b a) (cons_b (by omega) fun x hx => ?_)
  obtain ⟨j, hj, rfl⟩ := List.getElem_of_mem hx
  have := c j hj
  rw [List.getD_eq_getElem?_getD, List.getElem?_eq_getElem hj] at this
  simp only [inB, Bool.and_eq_true, decide_eq_true_eq, Option.getD_some] at this
  omega
theorem piR_b {y : InitM} {k : Int} (h1 : Bytes y.Random) (h2 : Bytes y.Cookie) : Bytes (piR y k).Chunk_Body := crOf_b fun hz => by
  obtain ⟨a, b, c, d, e⟩ := inF_zero (piF_zero hz).2
  exact app_b (app_b (app_b (app_b (app_b (pk_b ⟨by omega, a.2⟩) (pk_b b)) h1) (cons_b (by omega) (fun x hx => by have := adF_zero _ _ d x hx; omega))) (cons_b (by omega) (fun x hx => by cases hx))) h2
def rwC (x : ChunkM) : Option Ct :=
  if x.Kind = 0 then (if 8 ≤ x.Body.length then some (.data (rdY x.Flags x.Body)) else none)
  else if x.Kind = 3 then (if 5 ≤ x.Body.length ∧ 5 + 4 * cntN x.Body 4 ≤ x.Body.length then some (.sack ⟨atW x.Body 0, gapsOf ((x.Body.drop 5).take (4 * cntN x.Body 4))⟩) else none)
  else if x.Kind = 1 ∨ x.Kind = 2 then (if rinOk x.Body then some (.init x.Kind (rinV x.Body)) else none)
  else if x.Kind = 193 then (if 5 ≤ x.Body.length ∧ 5 + 2 * cntN x.Body 4 ≤ x.Body.length then some (.ask ⟨atW x.Body 0, opsOf ((x.Body.drop 5).take (2 * cntN x.Body 4))⟩) else none)
  else if x.Kind = 128 then (if cntOk x.Body 4 then some (.ans (rawV x.Body)) else none)
  else none
def ctPk : Ct → ChunkResultM
  | .no => ⟨3, 0, 0, []⟩
  | .data y => pdR y
  | .sack y => ksR y
  | .init k y => piR y k
  | .ask y => qaR y
  | .ans y => paR y
theorem bytes_d {l : List Int} (h : Bytes l) (n : Nat) : Bytes (l.drop n) := fun x hx => h x (List.mem_of_mem_drop hx)
theorem bytes_t {l : List Int} (h : Bytes l) (n : Nat) : Bytes (l.take n) := fun x hx => h x (List.mem_of_mem_take hx)
theorem rw_none {x : ChunkM} (h : rwC x = none) : ctM x = .no := by
  unfold rwC at h
  (repeat' split at h) <;> first | (cases h; done) | skip
  · next h0 h1 => exact (ctD h0).2 h1
  · next h0 h1 => exact (ctS h0).2 h1
  · next h0 h1 => exact (ctG h0).2 h1
  · next h0 h1 => exact (ctQ h0).2 h1
  · next h0 h1 => exact (ctW h0).2 h1
  · next h0 h1 h2 h3 h4 => exact ct_else h0 h1 (fun q => h2 (.inl q)) (fun q => h2 (.inr q)) h3 h4
theorem rw_some {x : ChunkM} {y : Ct} (hb : Bytes x.Body) (h : rwC x = some y) : y ≠ .no ∧ (isM x (ctPk y) = true → ctM x = y) ∧ (isM x (ctPk y) = false → ctM x = .no) ∧ Bytes (ctPk y).Chunk_Body := by
  unfold rwC at h
  (repeat' split at h) <;> first | (cases h; done) | cases h
  · next h0 h1 => exact ⟨by simp, ((ctD h0).1 h1).1, ((ctD h0).1 h1).2, pdR_b (bytes_d hb 8)⟩
  · next h0 h1 => exact ⟨by simp, ((ctS h0).1 h1).1, ((ctS h0).1 h1).2, ksR_b⟩
  · next h0 h1 => exact ⟨by simp, ((ctG h0).1 h1).1, ((ctG h0).1 h1).2, piR_b (bytes_t (bytes_d hb _) _) (bytes_t (bytes_d hb _) _)⟩
  · next h0 h1 => exact ⟨by simp, ((ctQ h0).1 h1).1, ((ctQ h0).1 h1).2, qaR_b⟩
  · next h0 h1 => exact ⟨by simp, ((ctW h0).1 h1).1, ((ctW h0).1 h1).2, paR_b⟩
/-- The reader's answer, as the numbers have it. -/
def CtAny (r : Nat) (x : ChunkM) (ty : TypeId) (pv : Value) (w : World) (e : Ending) (w' : World) : Prop :=
  Win r (r + 1) w w' ∧ ((rwC x = none ∧ e = PanE (.iface ty pv)) ∨ ∃ y v, rwC x = some y ∧ e = .returned v ∧ CtIs w' w.heap.size w'.heap.size y v)
theorem ctAny_ok {r : Nat} {x : ChunkM} {ty : TypeId} {pv : Value} {w : World} {f : FuncId} {a : Array Value} {T : TypeId} {xs : List V} {y : Ct} (h : Calls Tryd.prog f a w (CtRes r T xs w)) (e : rwC x = some y) (hi : ∀ (W : World) (B C : Nat) vs, OwN B C W xs vs → CtIs W B C y (.iface T (.agg vs.toArray))) : Calls Tryd.prog f a w (CtAny r x ty pv w) :=
  h.mono fun _ w' ⟨vs, he, ho, hw⟩ => ⟨hw, .inr ⟨y, _, e, he, hi w' _ _ vs ho⟩⟩
theorem ctAny_bad {r : Nat} {x : ChunkM} {ty : TypeId} {pv : Value} {w : World} {f : FuncId} {a : Array Value} (h : Calls Tryd.prog f a w (CtBad r ty pv w)) (e : rwC x = none) : Calls Tryd.prog f a w (CtAny r x ty pv w) :=
  h.mono fun _ _ ⟨he, hw⟩ => ⟨hw, .inl ⟨e, he⟩⟩
theorem rw_nil {x : ChunkM} (h : x.Body = []) : rwC x = none := by
  unfold rwC rinOk cntOk
  rw [h]
  simp
theorem content_re (r : Nat) (x : ChunkM) (w : World) (ty : TypeId) (pv : Value) (h : RE w r ty pv x.Body) (hm : x.Body.length ≤ 4000000) :
    Calls Tryd.prog 113 #[.pointer (some ⟨r, 0, none⟩), .int .i64 x.Kind, .int .i64 x.Flags] w (CtAny r x ty pv w) := by
  by_cases h0 : x.Kind = 0
  · by_cases g : 8 ≤ x.Body.length
    · exact ctAny_ok (by rw [h0]; exact ct_data_ok r x.Flags x.Body w ty pv h hm g) (by unfold rwC; rw [if_pos h0, if_pos g]) (by intro W B C vs ho; exact ⟨vs, rfl, ho⟩)
    · exact ctAny_bad (by rw [h0]; exact ct_data_bad r x.Flags x.Body w ty pv h hm g) (by unfold rwC; rw [if_pos h0, if_neg g])
  by_cases h3 : x.Kind = 3
  · by_cases g : 5 ≤ x.Body.length ∧ 5 + 4 * cntN x.Body 4 ≤ x.Body.length
    · exact ctAny_ok (by rw [h3]; exact ct_sack_ok r x.Flags x.Body w ty pv h hm g) (by unfold rwC; rw [if_neg h0, if_pos h3, if_pos g]) (by intro W B C vs ho; exact ⟨vs, rfl, ho⟩)
    · exact ctAny_bad (by rw [h3]; exact ct_sack_bad r x.Flags x.Body w ty pv h hm g) (by unfold rwC; rw [if_neg h0, if_pos h3, if_neg g])
  by_cases h1 : x.Kind = 1
  · by_cases g : rinOk x.Body
    · refine ctAny_ok (by rw [h1]; exact ct_greet1_ok r x.Flags x.Body w ty pv h hm g) (by unfold rwC; rw [if_neg h0, if_neg h3, if_pos (.inl h1), if_pos g]) (by intro W B C vs ho; exact ⟨vs, rfl, by rw [h1]; exact ho⟩)
    · exact ctAny_bad (by rw [h1]; exact ct_greet1_bad r x.Flags x.Body w ty pv h hm g) (by unfold rwC; rw [if_neg h0, if_neg h3, if_pos (.inl h1), if_neg g])
  by_cases h2 : x.Kind = 2
  · by_cases g : rinOk x.Body
    · refine ctAny_ok (by rw [h2]; exact ct_greet2_ok r x.Flags x.Body w ty pv h hm g) (by unfold rwC; rw [if_neg h0, if_neg h3, if_pos (.inr h2), if_pos g]) (by intro W B C vs ho; exact ⟨vs, rfl, by rw [h2]; exact ho⟩)
    · exact ctAny_bad (by rw [h2]; exact ct_greet2_bad r x.Flags x.Body w ty pv h hm g) (by unfold rwC; rw [if_neg h0, if_neg h3, if_pos (.inr h2), if_neg g])
  by_cases h4 : x.Kind = 193
  · by_cases g : 5 ≤ x.Body.length ∧ 5 + 2 * cntN x.Body 4 ≤ x.Body.length
    · exact ctAny_ok (by rw [h4]; exact ct_asconf_ok r x.Flags x.Body w ty pv h hm g) (by unfold rwC; rw [if_neg h0, if_neg h3, if_neg (by omega), if_pos h4, if_pos g]) (by intro W B C vs ho; exact ⟨vs, rfl, ho⟩)
    · exact ctAny_bad (by rw [h4]; exact ct_asconf_bad r x.Flags x.Body w ty pv h hm g) (by unfold rwC; rw [if_neg h0, if_neg h3, if_neg (by omega), if_pos h4, if_neg g])
  by_cases h5 : x.Kind = 128
  · by_cases g : cntOk x.Body 4
    · exact ctAny_ok (by rw [h5]; exact ct_answer_ok r x.Flags x.Body w ty pv h hm g) (by unfold rwC; rw [if_neg h0, if_neg h3, if_neg (by omega), if_neg h4, if_pos h5, if_pos g]) (by intro W B C vs ho; exact ⟨vs, rfl, ho⟩)
    · exact ctAny_bad (by rw [h5]; exact ct_answer_bad r x.Flags x.Body w ty pv h hm g) (by unfold rwC; rw [if_neg h0, if_neg h3, if_neg (by omega), if_neg h4, if_pos h5, if_neg g])
  exact ctAny_bad (ct_none r x.Kind x.Flags w ty pv h.e h0 h3 h1 h2 h4 h5) (by unfold rwC; rw [if_neg h0, if_neg h3, if_neg (by omega), if_neg h4, if_neg h5])
theorem content_any (r : Nat) (x : ChunkM) (w : World) (ty : TypeId) (pv : Value) (h : RE w r ty pv x.Body ∨ (x.Body = [] ∧ R0 w r ty pv)) (hm : x.Body.length ≤ 4000000) :
    Calls Tryd.prog 113 #[.pointer (some ⟨r, 0, none⟩), .int .i64 x.Kind, .int .i64 x.Flags] w (CtAny r x ty pv w) := by
  rcases h with h | ⟨e, h⟩
  · exact content_re r x w ty pv h hm
  · exact ctAny_bad (ct_empty r x.Kind x.Flags w ty pv h) (rw_nil e)
theorem pcA_any (y : Ct) (v : Value) (B C : Nat) (w : World) (h : CtIs w B C y v) (hn : y ≠ .no) : Calls Tryd.prog 59 #[v] w (Res w (ctPk y).vs) := by
  match y, h with
  | .no, _ => exact absurd rfl hn
  | .data y, h =>
    obtain ⟨vs, rfl, ho⟩ := h
    have hr := ho.rd
    obtain ⟨A, c, rfl⟩ := shape_Data hr
    exact pcD_any y A c w hr
  | .sack y, h =>
    obtain ⟨vs, rfl, ho⟩ := h
    have hr := ho.rd
    obtain ⟨A, c, rfl⟩ := shape_Sack hr
    exact pcS_any y A c w hr
  | .ask y, h =>
    obtain ⟨vs, rfl, ho⟩ := h
    have hr := ho.rd
    obtain ⟨A, c, rfl⟩ := shape_Asconf hr
    exact pcQ_any y A c w hr
  | .ans y, h =>
    obtain ⟨vs, rfl, ho⟩ := h
    have hr := ho.rd
    obtain ⟨A, c, rfl⟩ := shape_Answer hr
    exact pcW_any y A c w hr
  | .init k y, h =>
    obtain ⟨vs, rfl, ho⟩ := h
    have hr : RdA w [.int y.Tag, .int y.Tsn, .bs y.Random, .is y.Addrs, .bs y.Cookie, .int k] vs := ho.rd
    obtain ⟨q0, rfl, t0⟩ := hr.int_out
    obtain ⟨q1, rfl, t1⟩ := t0.int_out
    obtain ⟨v2, q2, rfl, r2, t2⟩ := t1.any_out
    obtain ⟨v3, q3, rfl, r3, t3⟩ := t2.any_out
    obtain ⟨v4, q4, rfl, r4, t4⟩ := t3.any_out
    obtain ⟨q5, rfl, t5⟩ := t4.int_out
    obtain rfl := t5.nil_out
    have hk : RdA w y.vs [.int .i64 y.Tag, .int .i64 y.Tsn, v2, v3, v4] := RdA.int_mk (RdA.int_mk (RdA.any_mk r2 (RdA.any_mk r3 (RdA.any_mk r4 RdA.nil_mk))))
    unfold Rd at r2 r3 r4
    obtain ⟨A2, c2, rfl, _⟩ := r2
    obtain ⟨A3, c3, rfl, _⟩ := r3
    obtain ⟨A4, c4, rfl, _⟩ := r4
    exact pcG_any y k A2 c2 A3 c3 A4 c4 w hk
end Go.Proofs.YtjjileefdjjijaaDoor

/- The model's chapter 5: l5Is. -/
namespace Go.Proofs.YtjjileefdjjijaaDoor
open Go.RowKit Go.Deep

theorem str_eq {a b : List Int} (ha : Bytes a) (hb : Bytes b) : ((strOfNums a).toList == (strOfNums b).toList) = (a == b) := by
  rw [ByteArray.toList_eq, ByteArray.toList_eq]
  by_cases e : a = b
  · subst e; simp
  · have : (strOfNums a).data.toList ≠ (strOfNums b).data.toList := fun x => e (strOfNums_inj ha hb (by
      cases hx : strOfNums a; cases hy : strOfNums b
      rw [hx, hy] at x
      simpa using x))
    rw [beq_eq_false_iff_ne.2 this, beq_eq_false_iff_ne.2 e]
set_option maxRecDepth 100000 in
set_option maxHeartbeats 4000000 in
theorem l5Is_any (g o : Nat) (x : ChunkM) (z : ChunkResultM) (vs : List Value) (w : World) (hx : RdL w x.vs g o) (hz : RdA w z.vs vs) (bx : Bytes x.Body) (bz : Bytes z.Chunk_Body) :
    Calls Tryd.prog 84 #[.pointer (some ⟨g, o, none⟩), .agg vs.toArray] w fun e w' => e = .returned (.bool (isM x z)) ∧ Below w.heap.size w w' := by
  obtain ⟨A, c, p0, p1, p2, hA⟩ := mem_Chunk hx
  obtain ⟨A3, c3, rfl⟩ := shape_ChunkResult hz
  have hz' : RdA w [.int z.Code, .int z.Chunk_Kind, .int z.Chunk_Flags, .bs z.Chunk_Body] _ := hz
  have hb3 := hz'.tl.tl.tl.hd
  have hg : g < w.heap.size := World.block_lt_of_cell? _ _ p0
  have B1 := bal (Below.refl w.heap.size w) (.cells #[.int .i64 z.Code, .int .i64 z.Chunk_Kind, .int .i64 z.Chunk_Flags, .slice A3 z.Chunk_Body.length c3] 30)
  have K1 := Blk.new w 30 #[.int .i64 z.Code, .int .i64 z.Chunk_Kind, .int .i64 z.Chunk_Flags, .slice A3 z.Chunk_Body.length c3]
  obtain ⟨w1, hw1⟩ : ∃ w1, w.alloc (.cells #[.int .i64 z.Code, .int .i64 z.Chunk_Kind, .int .i64 z.Chunk_Flags, .slice A3 z.Chunk_Body.length c3] 30) = w1 := ⟨_, rfl⟩
  rw [hw1] at B1 K1
  have q0 := (B1.cell (p := ⟨g, o, none⟩) hg).trans p0
  have q1 := (B1.cell (p := ⟨g, o + 1, none⟩) hg).trans p1
  have q2 := (B1.cell (p := ⟨g, o + 2, none⟩) hg).trans p2
  have r0 := K1.cell 0
  have r1 := K1.cell 1
  have r2 := K1.cell 2
  have r3 := K1.cell 3
  simp only [List.getElem?_toArray, List.getElem?_cons_succ, List.getElem?_cons_zero] at r0 r1 r2 r3
  have hA' : Bs w1 A x.Body := by
    obtain ⟨A', c', e, _, hb⟩ := (Rd.below B1 _ hA).bs_out
    injection e with e1 e2 e3; subst e1; exact hb
  have hB' : Bs w1 A3 z.Chunk_Body := by
    obtain ⟨A', c', e, _, hb⟩ := (Rd.below B1 _ hb3).bs_out
    injection e with e1 e2 e3; subst e1; exact hb
  have s1 := conv_bs w1 A x.Body c hA'
  have s2 := conv_bs w1 A3 z.Chunk_Body c3 hB'
  have s3 := conv_bs w1.drew A x.Body c (bs_below hA' (Below.refl _ _).drew)
  have s4 := conv_bs w1.drew A3 z.Chunk_Body c3 (bs_below hB' (Below.refl _ _).drew)
  have hs := str_eq bx bz
  have HW := hidH hw1
  have HB := hidH B1
  have hlt := K1.lt
  clear hx hz hz' hA hb3 p0 p1 p2 B1 K1 hw1 hA' hB' bx bz
  have HM := hidH (show isM x z = (z.Code == 0 && x.Kind == z.Chunk_Kind && x.Flags == z.Chunk_Flags && x.Body == z.Chunk_Body) from rfl)
  obtain ⟨bb, hbb⟩ : ∃ bb, isM x z = bb := ⟨_, rfl⟩
  rw [hbb] at HM ⊢
  clear hbb
  rcases Bool.eq_false_or_eq_true (z.Code == 0) with a0 | a0
  · rcases Bool.eq_false_or_eq_true (x.Kind == z.Chunk_Kind) with a1 | a1
    · rcases Bool.eq_false_or_eq_true (x.Flags == z.Chunk_Flags) with a2 | a2
      · have e := HM.out
        rw [a0, a1, a2, Bool.true_and, Bool.true_and, Bool.true_and] at e
        have HE := hidH e
        rw [← e] at hs
        clear e
        go_enter Tryd.func84, Tryd.ntmps84
        go_wp2_with fail
        rw [HW.out]
        go_region
        go_wp2
        go_ret
        exact ⟨rfl, HB.out.drew⟩
      · have e := HM.out
        rw [a0, a1, a2] at e
        have HE := hidH (show bb = false from e)
        obtain rfl := HE.out
        clear e hs
        go_enter Tryd.func84, Tryd.ntmps84
        go_wp2_with fail
        rw [HW.out]
        go_region
        go_wp2
        go_ret
        exact ⟨rfl, HB.out.drew⟩
    · have e := HM.out
      rw [a0, a1] at e
      have HE := hidH (show bb = false from e)
      obtain rfl := HE.out
      clear e hs
      go_enter Tryd.func84, Tryd.ntmps84
      go_wp2_with fail
      rw [HW.out]
      go_region
      go_wp2
      go_ret
      exact ⟨rfl, HB.out.drew⟩
  · have e := HM.out
    rw [a0] at e
    have HE := hidH (show bb = false from e)
    obtain rfl := HE.out
    clear e hs
    go_enter Tryd.func84, Tryd.ntmps84
    go_wp2_with fail
    rw [HW.out]
    go_region
    go_wp2
    go_ret
    exact ⟨rfl, HB.out.drew⟩
end Go.Proofs.YtjjileefdjjijaaDoor
