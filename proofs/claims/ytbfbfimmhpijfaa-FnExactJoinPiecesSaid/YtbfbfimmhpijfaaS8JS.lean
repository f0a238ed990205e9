/- Chapter 8: the model's JoinPieces. (WRITTEN BY tools/join8.py) -/
import Derived.Test.YtbfbfimmhpijfaaS8J
import Derived.Test.YtbfbfimmhpijfaaS8F
namespace Go.Proofs.Ytbfbfimmhpijfaa
open Go.RowKit Go.Deep

theorem no_first {r : List DataM} (h : (r.getD 0 dat0).First ≠ true) : ¬ whole r := fun w => h w.1
theorem no_last {r : List DataM} {k : Nat} (hk : r.length = k + 1) (h : (r.getD k dat0).Last ≠ true) : ¬ whole r := fun w => h (by have := w.2.1; rwa [hk] at this)
theorem no_fits {r : List DataM} {k j : Nat} (hk : r.length = k + 1) (hj : j < k) (h : ¬ fits (r.getD j dat0) (r.getD (j + 1) dat0)) : ¬ whole r := fun w => h (w.2.2 j (by omega))
theorem is_whole {r : List DataM} {k : Nat} (hk : r.length = k + 1) (h0 : (r.getD 0 dat0).First = true) (h1 : (r.getD k dat0).Last = true) (h2 : ∀ t, t < k → fits (r.getD t dat0) (r.getD (t + 1) dat0)) : whole r := ⟨h0, by rw [hk]; exact h1, fun i hi => h2 i (by omega)⟩
set_option maxRecDepth 100000 in
set_option maxHeartbeats 8000000 in
theorem jn_spec (r : List DataM) (v : Value) (u : World) (h : Rd u (st_Data r) v) (_ : WfV (st_Data r)) (_ : tot (st_Data r) ≤ 1048576) : Calls Try.prog 15 #[v] u (Res u (jnR r).vs) := by
  have B1 := bal (Below.refl u.heap.size u) (.cells #[.int .i64 0, .int .i64 0, .bool false, .slice none 0 0] 34)
  have R1 := Blk.new u 34 #[.int .i64 0, .int .i64 0, .bool false, .slice none 0 0]
  have s1 : (u.alloc (.cells #[.int .i64 0, .int .i64 0, .bool false, .slice none 0 0] 34)).heap.size = u.heap.size + 1 := World.size_alloc _ _
  obtain ⟨w1, hw1⟩ : ∃ w1, u.alloc (.cells #[.int .i64 0, .int .i64 0, .bool false, .slice none 0 0] 34) = w1 := ⟨_, rfl⟩
  rw [hw1] at B1 R1 s1
  have HW1 := hidH hw1
  have HB1 := hidH B1
  have HR1 := hidH R1
  clear hw1 B1 R1
  by_cases hlen : 1 ≤ r.length ∧ r.length ≤ 100
  case neg =>
    obtain ⟨A, c, rfl⟩ := st_Data_sh h
    have hm : (r.length : Int) ≤ 9223372036854775807 := Rd.st_len h
    clear h
    have HE := hidH (jnR_bad (jnF_many hlen) (by decide))
    clear HB1 HR1 HW1 s1
    by_cases hl1 : r.length < 1
    · have hl1' : (r.length : Int) < 1 := by omega
      clear hl1 hlen
      go_enter Try.func15, Try.ntmps15
      go_wp2
      exact bodyPost_ret (v := .agg #[.int .i64 2, .int .i64 0, .bool false, .slice none 0 0]) (by simp [results, Try.results15, go_sem]) rfl ⟨_, rfl, by rw [HE.out]; exact OwN.int _ (OwN.int 0 (OwN.bool false (OwN.empty _ (Nat.le_refl _)))), bal (Below.refl _ _) _⟩
    · have hl1' : ¬ (r.length : Int) < 1 := by omega
      have hl2' : (100 : Int) < (r.length : Int) := by omega
      clear hl1 hlen
      go_enter Try.func15, Try.ntmps15
      go_wp2
      exact bodyPost_ret (v := .agg #[.int .i64 2, .int .i64 0, .bool false, .slice none 0 0]) (by simp [results, Try.results15, go_sem]) rfl ⟨_, rfl, by rw [HE.out]; exact OwN.int _ (OwN.int 0 (OwN.bool false (OwN.empty _ (Nat.le_refl _)))), bal (Below.refl _ _) _⟩
  obtain ⟨k, hk⟩ : ∃ k, r.length = k + 1 := ⟨r.length - 1, by omega⟩
  obtain ⟨ga, oa, c, e, hga, E0⟩ := el_Data h (j := 0) (by omega)
  rw [hk] at e
  subst e
  have HEL := hidH (fun (j : Nat) (hj : j < r.length) (W : World) (hW : Below u.heap.size u W) => show RdL W r[j].vs ga (oa + j * 7) by
    obtain ⟨g', o', c', e, _, E⟩ := el_Data h hj
    injection e with e1 e2 e3
    injection e1 with e1
    injection e1 with e1 e4
    subst e1 e4
    exact RdL.below hW _ hga E)
  have HH := hidH (fun (W : World) (hW : Below u.heap.size u W) => Rd.below hW _ h)
  have HLEN := hidH hlen
  have HK := hidH hk
  have hk1 : ¬ ((k : Int) + 1 < 1) := by omega
  have hk2 : ¬ ((100 : Int) < (k : Int) + 1) := by omega
  clear h hlen hk E0
  go_enter Try.func15, Try.ntmps15
  go_wp2_with fail
  rw [HW1.out]
  clear HW1
  go_wp2
  go_loopw [3] (fun i wr => ∃ j : Nat, j ≤ k + 1 ∧ i = .int .i64 j ∧ pdsF (r.take j) = 0 ∧ Below w1.heap.size w1 wr) (fun i _ => k + 1 - (intOf i).toNat)
  case atStart => exact ⟨0, by omega, rfl, by simp [pdsF], Below.refl _ _⟩
  case round =>
    obtain ⟨j, hj, rfl, hP, hB⟩ := hrel
    by_cases hlt : j < k + 1
    · have hj0 : (0 : Int) ≤ (j : Int) := by omega
      have hj1 : (j : Int) < (k : Int) + 1 := by omega
      have hjr : j < r.length := by have := HK.out; omega
      have HF := hidH (pdF_any ga (oa + j * 7) r[j] wr (HEL.out j hjr wr (btr HB1.out hB)))
      have HT := hidH (pdsF_take r j hjr hP)
      have HN := hidH (fun (z : pdF r[j] ≠ 0) => show jnR r = ⟨pdF r[j], 0, false, []⟩ by
        have z2 := pdsF_first r j hjr hP z
        exact jnR_bad ((jnF_data HLEN.out (by rw [z2]; exact z)).trans z2) z)
      have HB := hidH hB
      obtain ⟨f, hf⟩ : ∃ f, pdF r[j] = f := ⟨_, rfl⟩
      simp only [hf] at HF HT HN
      clear hP hB hf
      go_wp2_with fail
      refine HF.out.mono ?_
      rintro e w3 ⟨rfl, b3⟩
      have HB3 := hidH (btr HB.out b3)
      clear b3 HF
      by_cases hz : f = 0
      · have hz2 : (f != 0) = false := by rw [bne_eq_false_iff_eq]; exact hz
        have HZ := hidH (HT.out.trans hz)
        clear hz HN HT
        go_wp2
        go_roundw
        case rel => exact ⟨j + 1, by omega, by go_num, HZ.out, HB3.out⟩
        case measure => simp [intOf]; omega
      · have hz2 : (f != 0) = true := by rw [bne_iff_ne]; exact hz
        have HE := hidH (HN.out hz)
        have HBU := hidH (btr HB1.out HB3.out)
        have R9 := HR1.out.below HB3.out
        have x0 := R9.cell 0
        have x1 := R9.cell 1
        have x2 := R9.cell 2
        have x3 := R9.cell 3
        have v0 := R9.frozen 0
        have v1 := R9.frozen 1
        have v2 := R9.frozen 2
        have v3 := R9.frozen 3
        simp only [List.getElem?_toArray, List.getElem?_cons_succ, List.getElem?_cons_zero] at x0 x1 x2 x3
        have hr9 := R9.lt
        clear R9
        clear hz HN HT HB HB3
        go_wp2
        exact bodyPost_ret (v := .agg #[.int .i64 f, .int .i64 0, .bool false, .slice none 0 0]) (by simp [results, Try.results15, go_sem, x0, x1, x2, x3]) rfl ⟨_, rfl, by rw [HE.out]; exact OwN.int _ (OwN.int 0 (OwN.bool false (OwN.empty _ (Nat.le_refl _)))), bst (bst (bst (bst HBU.out (Nat.le_refl _) _) (Nat.le_refl _) _) (Nat.le_refl _) _) (Nat.le_refl _) _⟩
    · obtain rfl : j = k + 1 := by omega
      have hP2 : pdsF r = 0 := by have := HK.out; rwa [← this, List.take_length] at hP
      have HP := hidH hP2
      have HALL := hidH (pdsF_all r hP2)
      have HB := hidH hB
      have hr0 : 0 < r.length := by have := HK.out; omega
      have hrk : k < r.length := by have := HK.out; omega
      obtain ⟨_, _, _, _, _, a3, _, _, _, _⟩ := mem_Data (HEL.out 0 hr0 wr (btr HB1.out hB))
      obtain ⟨_, _, _, _, _, _, b4, _, _, _⟩ := mem_Data (HEL.out k hrk wr (btr HB1.out hB))
      rw [Nat.zero_mul, Nat.add_zero, ← getD_at hr0] at a3
      rw [← getD_at hrk] at b4
      have HWH := hidH (fun (t : whole r) => jnF_msg HLEN.out hP2 t)
      have HNW := hidH (fun (t : ¬ whole r) => jnR_bad (jnF_form HLEN.out hP2 t) (by decide))
      have hk0 : (0 : Int) ≤ (k : Int) := by omega
      have hk3 : (0 : Int) < (k : Int) + 1 := by omega
      have hk4 : (k : Int) < (k : Int) + 1 := by omega
      clear hP hP2 hB hlt hj
      by_cases e0 : (r.getD 0 dat0).First = true
      case neg =>
        have HE := hidH (HNW.out (no_first e0))
        rw [show (r.getD 0 dat0).First = false by simpa using e0] at a3
        have HBU := hidH (btr HB1.out HB.out)
        have R9 := HR1.out.below HB.out
        have x0 := R9.cell 0
        have x1 := R9.cell 1
        have x2 := R9.cell 2
        have x3 := R9.cell 3
        have v0 := R9.frozen 0
        have v1 := R9.frozen 1
        have v2 := R9.frozen 2
        have v3 := R9.frozen 3
        simp only [List.getElem?_toArray, List.getElem?_cons_succ, List.getElem?_cons_zero] at x0 x1 x2 x3
        have hr9 := R9.lt
        clear R9
        clear e0 HWH HNW b4 HB
        go_wp2
        exact bodyPost_ret (v := .agg #[.int .i64 1, .int .i64 0, .bool false, .slice none 0 0]) (by simp [results, Try.results15, go_sem, x0, x1, x2, x3]) rfl ⟨_, rfl, by rw [HE.out]; exact OwN.int _ (OwN.int 0 (OwN.bool false (OwN.empty _ (Nat.le_refl _)))), bst (bst (bst (bst HBU.out (Nat.le_refl _) _) (Nat.le_refl _) _) (Nat.le_refl _) _) (Nat.le_refl _) _⟩
      rw [e0] at a3
      by_cases e1 : (r.getD k dat0).Last = true
      case neg =>
        have HE := hidH (HNW.out (no_last HK.out e1))
        rw [show (r.getD k dat0).Last = false by simpa using e1] at b4
        have HBU := hidH (btr HB1.out HB.out)
        have R9 := HR1.out.below HB.out
        have x0 := R9.cell 0
        have x1 := R9.cell 1
        have x2 := R9.cell 2
        have x3 := R9.cell 3
        have v0 := R9.frozen 0
        have v1 := R9.frozen 1
        have v2 := R9.frozen 2
        have v3 := R9.frozen 3
        simp only [List.getElem?_toArray, List.getElem?_cons_succ, List.getElem?_cons_zero] at x0 x1 x2 x3
        have hr9 := R9.lt
        clear R9
        clear e0 e1 HWH HNW HB
        go_wp2
        exact bodyPost_ret (v := .agg #[.int .i64 1, .int .i64 0, .bool false, .slice none 0 0]) (by simp [results, Try.results15, go_sem, x0, x1, x2, x3]) rfl ⟨_, rfl, by rw [HE.out]; exact OwN.int _ (OwN.int 0 (OwN.bool false (OwN.empty _ (Nat.le_refl _)))), bst (bst (bst (bst HBU.out (Nat.le_refl _) _) (Nat.le_refl _) _) (Nat.le_refl _) _) (Nat.le_refl _) _⟩
      rw [e1] at b4
      have HE0 := hidH e0
      have HE1 := hidH e1
      clear e0 e1
      go_wp2
      clear a3 b4
      go_loopw [5] (fun i wr2 => ∃ j : Nat, j ≤ k ∧ i = .int .i64 ((j : Int) + 1) ∧ (∀ t, t < j → fits (r.getD t dat0) (r.getD (t + 1) dat0)) ∧ Below w1.heap.size w1 wr2) (fun i _ => k + 1 - (intOf i).toNat)
      case atStart => exact ⟨0, by omega, by simp, fun t ht => by omega, HB.out⟩
      case round =>
        obtain ⟨j, hj, rfl, hFi, hB⟩ := hrel
        by_cases hlt : j < k
        · have hj0 : (0 : Int) ≤ (j : Int) := by omega
          have hj1 : (j : Int) + 1 < (k : Int) + 1 := by omega
          have hj2 : (j : Int) < (k : Int) + 1 := by omega
          have hj3 : (0 : Int) ≤ (j : Int) + 1 := by omega
          have hja : j < r.length := by have := HK.out; omega
          have hjb : j + 1 < r.length := by have := HK.out; omega
          have hz := (pdF_zero (HALL.out r[j] (List.getElem_mem hja))).1
          have HC := hidH (fun n => fits_any r[j] r[j + 1] ga (oa + j * 7) ga (oa + (j + 1) * 7) (wr.drewN n) (HEL.out j hja _ (below_drewN (btr HB1.out hB) n)) (HEL.out (j + 1) hjb _ (below_drewN (btr HB1.out hB) n)) hz.1 hz.2)
          have HNF := hidH (fun (t : ¬ fits r[j] r[j + 1]) => HNW.out (no_fits HK.out hlt (by rw [getD_at hja, getD_at hjb]; exact t)))
          have HYF := hidH (fun (t : fits r[j] r[j + 1]) => show ∀ t, t < j + 1 → fits (r.getD t dat0) (r.getD (t + 1) dat0) from fun i hi => by
            by_cases e : i = j
            · subst e; rw [getD_at hja, getD_at hjb]; exact t
            · exact hFi i (by omega))
          have HBB := hidH hB
          obtain ⟨b, hb⟩ : ∃ b, fitsB r[j] r[j + 1] = b := ⟨_, rfl⟩
          simp only [hb] at HC
          have HBV := hidH hb
          clear hFi hB hb hz
          cases b
          · have HE := hidH (HNF.out (fun t => by have := fitsB_yes t; rw [HBV.out] at this; cases this))
            clear HNF HYF HBV
            go_wp2
            go_quiet ((go_at_call 58; exact Calls.quiet_of (HC.out _)))
            have HBD := hidH (below_drewN HBB.out nq)
            have HBU := hidH (btr HB1.out HBD.out)
            have R9 := HR1.out.below HBD.out
            have x0 := R9.cell 0
            have x1 := R9.cell 1
            have x2 := R9.cell 2
            have x3 := R9.cell 3
            have v0 := R9.frozen 0
            have v1 := R9.frozen 1
            have v2 := R9.frozen 2
            have v3 := R9.frozen 3
            simp only [List.getElem?_toArray, List.getElem?_cons_succ, List.getElem?_cons_zero] at x0 x1 x2 x3
            have hr9 := R9.lt
            clear R9
            go_wp2
            exact bodyPost_ret (v := .agg #[.int .i64 1, .int .i64 0, .bool false, .slice none 0 0]) (by simp [results, Try.results15, go_sem, x0, x1, x2, x3]) rfl ⟨_, rfl, by rw [HE.out]; exact OwN.int _ (OwN.int 0 (OwN.bool false (OwN.empty _ (Nat.le_refl _)))), bst (bst (bst (bst HBU.out (Nat.le_refl _) _) (Nat.le_refl _) _) (Nat.le_refl _) _) (Nat.le_refl _) _⟩
          · have HY := hidH (HYF.out (fitsB_iff.1 HBV.out))
            clear HNF HYF HBV
            go_wp2
            go_quiet ((go_at_call 58; exact Calls.quiet_of (HC.out _)))
            go_wp2
            exact ⟨⟨j + 1, by omega, by go_num, HY.out, below_drewN HBB.out _⟩, by simp [intOf]; omega⟩
        · obtain rfl : j = k := by omega
          have HW := hidH (HWH.out (is_whole HK.out HE0.out HE1.out hFi))
          have HJ := hidH (l8Join_any r _ wr (HH.out wr (btr HB1.out hB)) HLEN.out.1 HLEN.out.2 HALL.out)
          have hB2 := hB
          have HBB := hidH hB
          have HML := hidH (show (jnM r).Bytes.length ≤ 10000 from by have := jn_len HALL.out; have := HLEN.out.2; show (r.flatMap DataM.Piece).length ≤ _; omega)
          have HOK := hidH (fun (z : msF (jnM r) = 0) => jnR_ok (HW.out.trans z))
          have HNO := hidH (fun (z : msF (jnM r) ≠ 0) => jnR_bad HW.out z)
          obtain ⟨M, hM⟩ : ∃ M, jnM r = M := ⟨_, rfl⟩
          simp only [hM] at HJ HOK HNO
          clear hM hB hB2 hFi hlt HW HML HNW HWH
          go_wp2_with fail
          refine HJ.out.mono ?_
          rintro e w4 ⟨vs, rfl, O4, b4⟩
          obtain ⟨A4, c4, rfl⟩ := shape_Message O4.rd
          have B5 := bal (Below.refl w4.heap.size w4) (.cells #[.int .i64 M.Stream, .bool M.Unordered, .slice A4 M.Bytes.length c4] 25)
          have K5 := Blk.new w4 25 #[.int .i64 M.Stream, .bool M.Unordered, .slice A4 M.Bytes.length c4]
          have HO5 := hidH (O4.below B5)
          have HB5 := hidH (btr (btr HBB.out b4) B5)
          have HS5 := hidH (b4.size)
          obtain ⟨w5, hw5⟩ : ∃ w5, w4.alloc (.cells #[.int .i64 M.Stream, .bool M.Unordered, .slice A4 M.Bytes.length c4] 25) = w5 := ⟨_, rfl⟩
          rw [hw5] at K5 HO5 HB5
          have HW5 := hidH hw5
          have HK5 := hidH K5
          have y0 := K5.cell 0
          have y1 := K5.cell 1
          have y2 := K5.cell 2
          simp only [List.getElem?_toArray, List.getElem?_cons_succ, List.getElem?_cons_zero] at y0 y1 y2
          have g5 := K5.lt
          clear O4 B5 K5 hw5 b4 HJ
          go_wp2_with fail
          rw [HW5.out]
          clear HW5
          go_wp2_with fail
          refine (msFw_spec M _ w5 HO5.out.rd).mono ?_
          rintro e w6 ⟨rfl, b6⟩
          have HO6 := hidH (HO5.out.below b6)
          have HB6 := hidH (btr HB5.out b6)
          have K6 := HK5.out.below b6
          clear y0 y1 y2 g5
          have y0 := K6.cell 0
          have y1 := K6.cell 1
          have y2 := K6.cell 2
          simp only [List.getElem?_toArray, List.getElem?_cons_succ, List.getElem?_cons_zero] at y0 y1 y2
          have g5 := K6.lt
          clear K6
          have HBU := hidH (btr HB1.out HB6.out)
          have R9 := HR1.out.below HB6.out
          have x0 := R9.cell 0
          have x1 := R9.cell 1
          have x2 := R9.cell 2
          have x3 := R9.cell 3
          have v0 := R9.frozen 0
          have v1 := R9.frozen 1
          have v2 := R9.frozen 2
          have v3 := R9.frozen 3
          simp only [List.getElem?_toArray, List.getElem?_cons_succ, List.getElem?_cons_zero] at x0 x1 x2 x3
          have hr9 := R9.lt
          clear R9
          have hsz := HBB.out.size
          have hsz4 := HS5.out
          have hsz6 := b6.size
          obtain ⟨f, hf⟩ : ∃ f, msF M = f := ⟨_, rfl⟩
          simp only [hf] at HOK HNO
          rw [hf]
          clear hf
          by_cases hz : f = 0
          · have hz2 : (f != 0) = false := by rw [bne_eq_false_iff_eq]; exact hz
            have HE := hidH (HOK.out hz)
            clear hz HOK HNO b6 HB6
            go_wp2
            have PF : ∀ a b c d : Value, OwN u.heap.size ((((w6.setCell ⟨u.heap.size, 0, none⟩ a).setCell ⟨u.heap.size, 1, none⟩ b).setCell ⟨u.heap.size, 2, none⟩ c).setCell ⟨u.heap.size, 3, none⟩ d).heap.size ((((w6.setCell ⟨u.heap.size, 0, none⟩ a).setCell ⟨u.heap.size, 1, none⟩ b).setCell ⟨u.heap.size, 2, none⟩ c).setCell ⟨u.heap.size, 3, none⟩ d) (.int 0 :: M.vs) [.int .i64 0, .int .i64 M.Stream, .bool M.Unordered, .slice A4 M.Bytes.length c4] := fun a b c d =>
              OwN.int 0 (((((HO6.out.win (set_win _ u.heap.size 0 a) (.inr (by omega))).win (set_win _ u.heap.size 1 b) (.inr (by omega))).win (set_win _ u.heap.size 2 c) (.inr (by omega))).win (set_win _ u.heap.size 3 d) (.inr (by omega))).mono (B' := u.heap.size) (by omega) (by simp [World.setCell]; omega) (Nat.le_refl _))
            exact bodyPost_ret (v := .agg #[.int .i64 0, .int .i64 M.Stream, .bool M.Unordered, .slice A4 M.Bytes.length c4]) (by simp [results, Try.results15, go_sem, x0, x1, x2, x3]) rfl ⟨_, rfl, by rw [HE.out]; exact PF _ _ _ _, bst (bst (bst (bst HBU.out (Nat.le_refl _) _) (Nat.le_refl _) _) (Nat.le_refl _) _) (Nat.le_refl _) _⟩
          · have hz2 : (f != 0) = true := by rw [bne_iff_ne]; exact hz
            have HE := hidH (HNO.out hz)
            clear hz HOK HNO b6 HB6
            go_wp2
            exact bodyPost_ret (v := .agg #[.int .i64 f, .int .i64 0, .bool false, .slice none 0 0]) (by simp [results, Try.results15, go_sem, x0, x1, x2, x3]) rfl ⟨_, rfl, by rw [HE.out]; exact OwN.int _ (OwN.int 0 (OwN.bool false (OwN.empty _ (Nat.le_refl _)))), bst (bst (bst (bst HBU.out (Nat.le_refl _) _) (Nat.le_refl _) _) (Nat.le_refl _) _) (Nat.le_refl _) _⟩
end Go.Proofs.Ytbfbfimmhpijfaa
