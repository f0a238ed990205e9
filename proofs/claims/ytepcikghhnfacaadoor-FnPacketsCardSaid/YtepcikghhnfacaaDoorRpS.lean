/- The model's ReadPacket. -/
import Derived.Test.YtepcikghhnfacaaDoorRpR
namespace Go.Proofs.YtepcikghhnfacaaDoor
open Go.RowKit Go.Deep

/-- What ReadPacket answers, in memory of its own. -/
def RdOwn (D : List Int) (w : World) (e : Ending) (w' : World) : Prop :=
  ∃ P c', e = .returned (.agg #[.int .i64 (rdC D), .int .i64 (rdT D), .slice P (rdCs D).length c']) ∧ OCs w.heap.size w'.heap.size w' P (rdCs D) ∧ Below w.heap.size w w'
theorem OCs.up {B C C' : Nat} {w : World} {P : Option Addr} {cs : List Chk} (h : OCs B C w P cs) (h1 : C ≤ C') (h2 : C' ≤ w.heap.size) : OCs B C' w P cs := by
  rcases h with h | ⟨g, o, lo, hi, q1, q2, q3, _, q5, q6⟩
  · exact .inl h
  · exact .inr ⟨g, o, lo, hi, q1, q2, Nat.lt_of_lt_of_le q3 h1, h2, q5, fun j hj => by
      obtain ⟨r1, r2, r3⟩ := q6 j hj
      exact ⟨r1, Nat.le_trans r2 h1, r3⟩⟩
theorem rd_no {D : List Int} {x : Int} (h : rdC D = x) (hx : x ≠ 0) : rdT D = 0 ∧ rdCs D = [] := by
  have h0 : ¬ rdC D = 0 := by rw [h]; exact hx
  exact ⟨by rw [rdT, if_neg h0], by rw [rdCs, if_neg h0]⟩
theorem rdOwn_no {D : List Int} {x : Int} (h : rdC D = x) (hx : x ≠ 0) {w w' : World} (hb : Below w.heap.size w w') : RdOwn D w (.returned (.agg #[.int .i64 x, .int .i64 0, .slice none 0 0])) w' := by
  obtain ⟨h1, h2⟩ := rd_no h hx
  exact ⟨none, 0, by rw [h, h1, h2]; rfl, .inl h2, hb⟩
/-- The copy while its checksum's place is cleared. -/
def ZB (w : World) (g : Nat) (D : List Int) (j : Nat) : Prop :=
  g < w.heap.size ∧ (∀ t, t < D.length → w.cell? ⟨g, t, none⟩ = some (.int .u8 (if 4 ≤ t ∧ t < j then 0 else D.getD t 0))) ∧ ∀ t, w.frozen? ⟨g, t, none⟩ = false
theorem ZB.step {w : World} {g : Nat} {D : List Int} {j : Nat} (h : ZB w g D j) (h4 : 4 ≤ j) (hj : j < D.length) : ZB (w.setCell ⟨g, j, none⟩ (.int .u8 0)) g D (j + 1) := by
  refine ⟨by simpa [World.setCell] using h.1, fun t ht => ?_, fun t => by simpa using h.2.2 t⟩
  by_cases e : t = j
  · subst e
    rw [World.cell?_setCell_same _ _ _ (h.2.1 t ht), if_pos (by omega)]
  · rw [World.cell?_setCell_other _ _ _ _ (fun x => by injection x with _ x2; omega), h.2.1 t ht]
    by_cases h2 : 4 ≤ t ∧ t < j
    · rw [if_pos h2, if_pos (by omega)]
    · rw [if_neg h2, if_neg (by omega)]
theorem ZB.bs {w : World} {g : Nat} {D : List Int} (h : ZB w g D 8) (h8 : 8 ≤ D.length) : Bs w (some ⟨g, 0, none⟩) (blankL D) :=
  .inr ⟨g, 0, rfl, h.1, fun j hj => by rw [Nat.zero_add, blankL_at h8]; exact h.2.1 j (by rw [blankL_len h8] at hj; exact hj)⟩
theorem mRead_ok : ∀ (n : Nat) (d : List Int), d.length ≤ n → Bytes d → (mRead d).length ≤ d.length ∧ ∀ x ∈ mRead d, Bytes x.body ∧ x.body.length ≤ d.length
  | 0, d, hn, _ => by
    rw [mRead_end (by omega)]
    exact ⟨by simp, fun x hx => by cases hx⟩
  | n + 1, d, hn, hd => by
    by_cases h4 : 4 ≤ d.length
    · by_cases h2 : pairV d < 4 ∨ (d.length : Int) < pairV d
      · rw [mRead_stop h4 h2]
        exact ⟨by simp, fun x hx => by cases hx⟩
      · rw [mRead_go h4 h2]
        have hl : (d.drop (((pairV d).toNat + 3) / 4 * 4)).length ≤ n := by rw [List.length_drop]; omega
        obtain ⟨i1, i2⟩ := mRead_ok n _ hl (fun x hx => hd x (List.mem_of_mem_drop hx))
        rw [List.length_drop] at i1
        refine ⟨by rw [List.length_cons]; omega, fun x hx => ?_⟩
        rcases List.mem_cons.1 hx with rfl | hx
        · refine ⟨fun y hy => hd y (List.mem_of_mem_drop (List.mem_of_mem_take hy)), ?_⟩
          rw [rdHead, List.length_take, List.length_drop]
          omega
        · obtain ⟨j1, j2⟩ := i2 x hx
          rw [List.length_drop] at j2
          exact ⟨j1, by omega⟩
    · rw [mRead_end (by omega)]
      exact ⟨by simp, fun x hx => by cases hx⟩
set_option maxRecDepth 100000 in
set_option maxHeartbeats 4000000 in
theorem readPacket_spec (A : Option Addr) (D : List Int) (c : Nat) (w : World) (hA : Bs w A D) (hD : Bytes D) (hm : (D.length : Int) ≤ 9223372036854775807) (hc : D.length ≤ c) (hcm : (c : Int) ≤ 9223372036854775807) :
    Calls Tryd.prog 12 #[.slice A D.length c] w (RdOwn D w) := by
  have K1 := Blk.new w 33 #[.int .i64 0, .int .i64 0, .slice none 0 0]
  have B1 := bal (Below.refl w.heap.size w) (.cells #[.int .i64 0, .int .i64 0, .slice none 0 0] 33)
  have A1 := bs_below hA (bal (Below.refl _ w) (.cells #[.int .i64 0, .int .i64 0, .slice none 0 0] 33))
  obtain ⟨w1, hw1⟩ : ∃ w1, w.alloc (.cells #[.int .i64 0, .int .i64 0, .slice none 0 0] 33) = w1 := ⟨_, rfl⟩
  rw [hw1] at K1 B1 A1
  have HW1 := hidH hw1
  have HK1 := hidH K1
  have HB1 := hidH B1
  have HA1 := hidH A1
  have HD := hidH hD
  have HC := hidH (And.intro hc hcm)
  clear K1 B1 A1 hw1 hA hD hc hcm
  by_cases hbad : D.length < 8 ∨ 500 < D.length
  · have HR := hidH (show rdC D = 2 by rw [rdC, if_pos hbad])
    rcases hbad with h | h
    · have h1 : (D.length : Int) < 8 := by omega
      have h2 : decide ((D.length : Int) < 8) = true := decide_eq_true h1
      go_enter Tryd.func12, Tryd.ntmps12
      go_wp2
      exact bodyPost_ret (v := .agg #[.int .i64 2, .int .i64 0, .slice none 0 0]) (by simp [results, Tryd.results12, go_sem]) rfl (rdOwn_no HR.out (by decide) (bal (Below.refl _ _) _))
    · have h1 : (500 : Int) < (D.length : Int) := by omega
      have h8 : ¬ ((D.length : Int) < 8) := by omega
      clear h
      go_enter Tryd.func12, Tryd.ntmps12
      go_wp2
      exact bodyPost_ret (v := .agg #[.int .i64 2, .int .i64 0, .slice none 0 0]) (by simp [results, Tryd.results12, go_sem]) rfl (rdOwn_no HR.out (by decide) (bal (Below.refl _ _) _))
  · have hn8 : 8 ≤ D.length := by omega
    have hn5 : D.length ≤ 500 := by omega
    have h8I : (8 : Int) ≤ (D.length : Int) := by omega
    have h5I : (D.length : Int) ≤ 500 := by omega
    have HRC := hidH (show rdC D = (if rdSum D = atW D 4 then (if rdOk D then 0 else 5) else 9) by rw [rdC, if_neg hbad])
    have HN := hidH (And.intro hn8 hn5)
    have HCP := hidH (copy_any A D c w1 HA1.out (by omega))
    clear hbad hn8 hn5
    go_enter Tryd.func12, Tryd.ntmps12
    go_wp2_with fail
    rw [HW1.out]
    refine HCP.out.mono ?_
    rintro e w2 ⟨v2, rfl, o2, b2⟩
    obtain ⟨g, cap, cur, rfl, hg, hgl, K2, hc2, hcm2, _, ht2⟩ := own_row o2 (by have := HN.out.1; omega)
    have HZ := hidH (show ZB w2 g D 4 from ⟨hgl, fun t ht => by rw [if_neg (by omega)]; exact row_cell K2 ht2 t ht, K2.frozen⟩)
    have HB2 := hidH (btr HB1.out b2)
    have HB12 := hidH b2
    have hg1 : w.heap.size + 1 ≤ g := by rw [← show w1.heap.size = w.heap.size + 1 by rw [← HW1.out]; simp]; exact hg
    have HG := hidH (And.intro hg (And.intro hg1 (And.intro hc2 hcm2)))
    clear HW1 HCP o2 b2 hg hgl K2 hc2 hcm2 ht2 hg1
    go_wp2
    go_loopw [4] (fun a wr => ∃ j : Nat, 4 ≤ j ∧ j ≤ 8 ∧ a = .int .i64 (j : Int) ∧ ZB wr g D j ∧ Below w1.heap.size w1 wr) (fun a _ => 8 - (intOf a).toNat)
    case atStart => exact ⟨4, by omega, by omega, rfl, HZ.out, HB12.out⟩
    case round =>
      obtain ⟨j, hj4, hj8, rfl, hZ, hB⟩ := hrel
      by_cases hlt : j < 8
      · have hjI : (j : Int) < 8 := by omega
        have hj0 : (4 : Int) ≤ (j : Int) := by omega
        have hjl : (j : Int) < (D.length : Int) := by omega
        have cz := hZ.2.1 j (by have := HN.out.1; omega)
        rw [if_neg (by omega)] at cz
        have fz := hZ.2.2 j
        have gl := hZ.1
        have HZ2 := hidH (hZ.step hj4 (by have := HN.out.1; omega))
        have HB3 := hidH (bst hB (p := ⟨g, j, none⟩) HG.out.1 (.int .u8 0))
        clear hZ hB
        go_wp2
        go_roundw
        case rel => exact ⟨j + 1, by omega, by omega, by go_num, HZ2.out, HB3.out⟩
        case measure => simp [intOf]; omega
      · obtain rfl : j = 8 := by omega
        have HS := hidH (hZ.bs HN.out.1)
        have HCR := hidH (crc_any (some ⟨g, 0, none⟩) (blankL D) cap wr HS.out (blankL_bytes HD.out) (by rw [blankL_len HN.out.1]; omega))
        rw [blankL_len HN.out.1] at HCR
        have HSU := hidH (show rdSum D = ((crcV (nB (blankL D)) : Nat) : Int) from rfl)
        rw [← HSU.out] at HCR
        have HB3 := hidH hB
        have HA2 := bs_below HA1.out hB
        have hRb : Blk wr w.heap.size 33 #[.int .i64 0, .int .i64 0, .slice none 0 0] := HK1.out.below hB
        have HRB := hidH hRb
        have HAA := hidH HA2
        rcases HA2 with rfl | ⟨b, off, rfl, hb, hA⟩
        · simp at h8I
        have a4 := hA 4 (by have := HN.out.1; omega)
        have a5 := hA 5 (by have := HN.out.1; omega)
        have a6 := hA 6 (by have := HN.out.1; omega)
        have a7 := hA 7 (by have := HN.out.1; omega)
        have HAt := hidH (fun (u : World) (hu : Below wr.heap.size wr u) => l1At_any b off D.length c 4 _ _ _ _ u (by have := HN.out.1; omega) (by omega) ((hu.cell (p := ⟨b, off + 4, none⟩) hb).trans a4) ((hu.cell (p := ⟨b, off + 5, none⟩) hb).trans a5) ((hu.cell (p := ⟨b, off + 6, none⟩) hb).trans a6) ((hu.cell (p := ⟨b, off + 7, none⟩) hb).trans a7) (HD.out.get _).1 (HD.out.get _).2 (HD.out.get _).1 (HD.out.get _).2 (HD.out.get _).1 (HD.out.get _).2 (HD.out.get _).1 (HD.out.get _).2)
        have hat : atW D 4 = D.getD 4 0 * 16777216 + D.getD (4 + 1) 0 * 65536 + D.getD (4 + 2) 0 * 256 + D.getD (4 + 3) 0 := rfl
        simp only [Nat.reduceAdd] at hat
        rw [← hat] at HAt
        obtain ⟨S, hS⟩ : ∃ S, rdSum D = S := ⟨_, rfl⟩
        obtain ⟨T, hT⟩ : ∃ T, atW D 4 = T := ⟨_, rfl⟩
        rw [hS] at HCR HSU HRC
        rw [hT] at HAt HRC
        have HST := hidH (And.intro hS hT)
        have HZG := hidH hZ.1
        clear hZ hB hA a4 a5 a6 a7 hat hS hT hlt hj4 hj8 hRb
        go_wp2_with fail
        refine HCR.out.mono ?_
        rintro e w4 ⟨rfl, d4, rfl⟩
        have B4 := hidH (below_drewN (Below.refl wr.heap.size wr) d4)
        go_wp2_with fail
        refine (HAt.out _ B4.out).mono ?_
        rintro e w5 ⟨rfl, d5, rfl⟩
        have B5 := hidH (below_drewN B4.out d5)
        obtain ⟨w6, hw6⟩ : ∃ w6, (wr.drewN d4).drewN d5 = w6 := ⟨_, rfl⟩
        rw [hw6] at B5 ⊢
        have B6 := hidH (btr (btr HB1.out HB3.out) B5.out)
        have A6 := hidH (bs_below HAA.out B5.out)
        have R6 := hidH (HRB.out.below B5.out)
        have b6s := hidH (show wr.heap.size ≤ w6.heap.size from B5.out.size)
        have HG1 := hidH (show w.heap.size + 1 ≤ wr.heap.size by have := HG.out.2.1; have := HZG.out; omega)
        clear HCR HAt B4 hw6 HSU B5 HAA HRB HB3
        by_cases hne : S = T
        · have hneq : (S != T) = false := by rw [bne_eq_false_iff_eq]; exact hne
          have HRC2 := hidH (show rdC D = (if rdOk D then 0 else 5) by rw [HRC.out, if_pos hne])
          have HL4 := hidH (l4Read_any _ D c w6 A6.out HD.out HN.out.1 (by have := HN.out.2; omega) HC.out.1 HC.out.2)
          have HOK := hidH (mRead_ok _ (D.drop 8) (Nat.le_refl _) (fun x hx => HD.out x (List.mem_of_mem_drop hx)))
          have hdl : (D.drop 8).length ≤ 500 := by rw [List.length_drop]; have := HN.out.2; omega
          have HDL := hidH hdl
          have HT0 := hidH (show rdT D = (if rdC D = 0 then atW D 0 else 0) from rfl)
          have HCS0 := hidH (show rdCs D = (if rdC D = 0 then mRead (D.drop 8) else []) from rfl)
          have HOKD := hidH (show rdOk D ↔ pkF (atW D 0) (mRead (D.drop 8)) = 0 ∧ pkL (atW D 0) (mRead (D.drop 8)) = D from Iff.rfl)
          unfold pkV at HL4
          obtain ⟨tag, htag⟩ : ∃ tag, atW D 0 = tag := ⟨_, rfl⟩
          obtain ⟨cs, hcs⟩ : ∃ cs, mRead (D.drop 8) = cs := ⟨_, rfl⟩
          rw [htag, hcs] at HL4 HOKD
          rw [htag] at HT0
          rw [hcs] at HOK HCS0
          clear hne hdl htag hcs
          go_wp2_with fail
          refine HL4.out.mono ?_
          rintro e w7 ⟨P, c7, rfl, C7, b7⟩
          have K8 : PkB (w7.alloc (.cells #[.int .i64 tag, .slice P cs.length c7] 26)) w7.heap.size 0 tag P cs c7 := ⟨by simp, (Blk.new w7 26 _).cell 0, (Blk.new w7 26 _).cell 1, C7.cs.below (bal (Below.refl _ w7) _)⟩
          have o := bal (Below.refl w7.heap.size w7) (.cells #[.int .i64 tag, .slice P cs.length c7] 26)
          have B8 := hidH (btr (btr B6.out b7) o)
          have A8 := hidH (bs_below (bs_below A6.out b7) o)
          have R8 := hidH ((R6.out.below b7).below o)
          have O8 := hidH (C7.below o)
          have HSC0 := hidH o.size
          have HGE := hidH (Nat.le_trans HG1.out b6s.out)
          have HK8 := hidH K8
          obtain ⟨w8, hw8⟩ : ∃ w8, w7.alloc (.cells #[.int .i64 tag, .slice P cs.length c7] 26) = w8 := ⟨_, rfl⟩
          rw [hw8] at B8 A8 R8 HK8 O8 HSC0
          have HW8 := hidH hw8
          have hcsl : (cs.length : Int) ≤ 500 := by have := HOK.out.1; have := HDL.out; omega
          have PF := hidH (fun (u : World) (h : Cs u P cs) => pkFault_spec tag P cs c7 u h (by omega) (fun x hx => by have := (HOK.out.2 x hx).2; have := HDL.out; omega))
          unfold pkV at PF
          clear K8 o b7 C7 hw8 HL4 B6 A6 R6
          go_wp2_with fail
          rw [HW8.out]
          obtain ⟨F, hF⟩ : ∃ F, pkF tag cs = F := ⟨_, rfl⟩
          rw [hF] at PF
          by_cases hz : F = 0
          · subst hz
            obtain ⟨⟨t0, t1⟩, ⟨_, n8⟩, ok, _⟩ := pkF_zero hF
            have LP := hidH (fun (u : World) (h : PkB u w7.heap.size 0 tag P cs c7) => l4Pack_any w7.heap.size 0 tag P cs c7 u h t0 t1 ok (fun x hx => (HOK.out.2 x hx).1) (by omega))
            have hsw := sumOf_word t0 t1 ok (fun x hx => (HOK.out.2 x hx).1)
            have HLB := hidH (rawL_bytes (sum := sumOf tag cs) t0 t1 hsw.1 hsw.2 ok (fun x hx => (HOK.out.2 x hx).1))
            have HSE := hidH (str_eqb (show Bytes (pkL tag cs) from HLB.out) HD.out)
            have HF0 := hidH hF
            obtain ⟨L, hL⟩ : ∃ L, pkL tag cs = L := ⟨_, rfl⟩
            rw [hL] at LP HSE HOKD
            obtain ⟨r, hr⟩ : ∃ r, decide (L = D) = r := ⟨_, rfl⟩
            rw [hr] at HSE
            have HRR := hidH hr
            clear t0 t1 n8 ok hsw HLB hL hr hF
            refine wp_region_any (by kernel_rfl) ?_
            refine regRpB _ _ _ _ _ _ _ _ _ _ _ _ _ _ _ _ _ _ _ _ _ _ _ _ _ _ _ _ _ _ w8 w7.heap.size tag P cs c7 _ D c L r HSE PF.out LP.out (by kernel_rfl) (by kernel_rfl) (by kernel_rfl) rfl (HK8.out.below (Below.refl _ _).drew) (bs_below A8.out (Below.refl _ _).drew) (Below.refl _ _).drew ?_
            intro s32 s33 s34 s35 s36 s37 s38 s39 s40 W hM hDD hO
            have R9 := R8.out.below hO
            have B9 := btr B8.out hO
            have M9 := hidH hM
            clear hM hDD R8 B8 A8 HK8 HW8 PF LP
            rcases r with _ | _
            · clear hO O8
              have HR := hidH (show rdC D = 5 by rw [HRC2.out, if_neg (fun h => of_decide_eq_false HRR.out (HOKD.out.1 h).2)])
              obtain ⟨y0, y1, y2, yz⟩ := R9.three
              have f0 := R9.frozen 0
              have f1 := R9.frozen 1
              have f2 := R9.frozen 2
              have HB9 := hidH B9
              clear R9 B9
              go_wp2
              exact bodyPost_ret (v := .agg #[.int .i64 5, .int .i64 0, .slice none 0 0]) (by simp [results, Tryd.results12, go_sem, y0, y1, y2]) rfl (rdOwn_no HR.out (by decide) (bst (bst (bst HB9.out (Nat.le_refl _) _) (Nat.le_refl _) _) (Nat.le_refl _) _))
            · have hR0 : rdC D = 0 := by rw [HRC2.out, if_pos (HOKD.out.2 ⟨HF0.out, of_decide_eq_true HRR.out⟩)]
              have hT0 := HT0.out
              have hC0 := HCS0.out
              rw [if_pos hR0] at hT0 hC0
              have HR := hidH (And.intro hR0 (And.intro hT0 hC0))
              have x0 := M9.out.c0
              have x1 := M9.out.c1
              have xlt := M9.out.lt
              have CS := O8.out.below hO
              have HSC := hidH (Nat.le_trans HSC0.out (show w8.heap.size ≤ W.heap.size from hO.size))
              obtain ⟨y0, y1, y2, yz⟩ := R9.three
              have f0 := R9.frozen 0
              have f1 := R9.frozen 1
              have f2 := R9.frozen 2
              have HB9 := hidH B9
              have HCS := hidH CS
              clear R9 B9 hR0 hT0 hC0 CS M9 hO O8
              go_wp2
              exact bodyPost_ret (v := .agg #[.int .i64 0, .int .i64 tag, .slice P cs.length c7]) (by simp [results, Tryd.results12, go_sem, y0, y1, y2]) rfl ⟨P, c7, by rw [HR.out.1, HR.out.2.1, HR.out.2.2], by rw [HR.out.2.2]; exact (((((HCS.out.win (win_set _ w.heap.size 0 _) (.inr HGE.out)).win (win_set _ w.heap.size 1 _) (.inr HGE.out)).win (win_set _ w.heap.size 2 _) (.inr HGE.out)).mono (B' := w.heap.size) (by have := HGE.out; omega)).up (by simp only [set_size]; exact HSC.out) (Nat.le_refl _)), bst (bst (bst HB9.out (Nat.le_refl _) _) (Nat.le_refl _) _) (Nat.le_refl _) _⟩
          · have hne : (F != 0) = true := by rw [bne_iff_ne]; exact hz
            have HR := hidH (show rdC D = 5 by rw [HRC2.out, if_neg (fun h => hz (hF.symm.trans (HOKD.out.1 h).1))])
            clear hz hF
            refine wp_region_any (by kernel_rfl) ?_
            refine regRpA _ _ _ _ _ _ _ _ _ _ _ _ _ _ _ _ _ _ _ _ _ _ _ _ _ _ _ _ _ _ w8 w7.heap.size tag P cs c7 _ D c F hne PF.out (by kernel_rfl) (by kernel_rfl) (by kernel_rfl) rfl (HK8.out.below (Below.refl _ _).drew) (bs_below A8.out (Below.refl _ _).drew) (Below.refl _ _).drew ?_
            intro s32 s33 s34 s35 s36 s37 s38 s39 s40 W hM hDD hO
            have R9 := R8.out.below hO
            have B9 := btr B8.out hO
            clear hM hDD hO R8 B8 A8 HK8 HW8 PF
            obtain ⟨y0, y1, y2, yz⟩ := R9.three
            have f0 := R9.frozen 0
            have f1 := R9.frozen 1
            have f2 := R9.frozen 2
            have HB9 := hidH B9
            clear R9 B9
            go_wp2
            exact bodyPost_ret (v := .agg #[.int .i64 5, .int .i64 0, .slice none 0 0]) (by simp [results, Tryd.results12, go_sem, y0, y1, y2]) rfl (rdOwn_no HR.out (by decide) (bst (bst (bst HB9.out (Nat.le_refl _) _) (Nat.le_refl _) _) (Nat.le_refl _) _))
        · have hneq : (S != T) = true := by rw [bne_iff_ne]; exact hne
          have HR := hidH (show rdC D = 9 by rw [HRC.out, if_neg hne])
          have R7 := R6.out
          obtain ⟨y0, y1, y2, yz⟩ := R7.three
          have f0 := R7.frozen 0
          have f1 := R7.frozen 1
          have f2 := R7.frozen 2
          clear R7 hne
          go_wp2
          exact bodyPost_ret (v := .agg #[.int .i64 9, .int .i64 0, .slice none 0 0]) (by simp [results, Tryd.results12, go_sem, y0, y1, y2]) rfl (rdOwn_no HR.out (by decide) (bst (bst (bst B6.out (Nat.le_refl _) _) (Nat.le_refl _) _) (Nat.le_refl _) _))
end Go.Proofs.YtepcikghhnfacaaDoor
