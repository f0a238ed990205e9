/- The program's Sack: fault. -/
import Derived.Test.YtgghelpbobbkgaaIpS
namespace Go.Proofs.Ytgghelpbobbkgaa
open Go.RowKit Go.Deep

set_option maxRecDepth 100000 in
set_option maxHeartbeats 8000000 in
theorem ksF_impl (y : SackM) (vs : List Value) (w : World) (h : RdA w y.vs vs) :
    Calls Try.prog 111 #[.agg vs.toArray] w fun e w' => e = .returned (.int .i64 (ksF y)) ∧ Below w.heap.size w w' := by
  obtain ⟨A, c, rfl⟩ := shape_Sack h
  have h' : RdA w [.int y.Cum, st_Gap y.Gaps] _ := h
  have hA := h'.tl.hd
  have hm : (y.Gaps.length : Int) ≤ 9223372036854775807 := Rd.st_len hA
  have K1 := Blk.new w 45 #[.int .i64 y.Cum, .slice A y.Gaps.length c]
  have B1 := bal (Below.refl w.heap.size w) (.cells #[.int .i64 y.Cum, .slice A y.Gaps.length c] 45)
  obtain ⟨w1, hw1⟩ : ∃ w1, w.alloc (.cells #[.int .i64 y.Cum, .slice A y.Gaps.length c] 45) = w1 := ⟨_, rfl⟩
  rw [hw1] at K1 B1
  have k0 := K1.cell 0
  have k1 := K1.cell 1
  simp only [List.getElem?_toArray, List.getElem?_cons_succ, List.getElem?_cons_zero] at k0 k1
  have hk := K1.lt
  have HI := hidH hA
  have HB := hidH B1
  clear h h' hA K1 B1
  by_cases h1 : wB y.Cum = true
  · by_cases h5 : 20 < y.Gaps.length
    · have e : ksF y = 2 := by simp only [ksF, h1, if_true]; rw [if_neg (by omega)]
      have h5' : (20 : Int) < (y.Gaps.length : Int) := by omega
      rw [e]
      clear e h5
      go_enter Try.func111, Try.ntmps111
      go_wp2_with (first | (go_at_call 104; refine (isWord_any _ _).mono ?_; rintro e w' ⟨rfl, rfl⟩))
      go_ret
      exact ⟨rfl, HB.out⟩
    · have h5' : ¬ (20 : Int) < (y.Gaps.length : Int) := by omega
      have e0 : ksF y = if okGaps 0 y.Gaps then 0 else 1 := by simp only [ksF, h1, if_true]; rw [if_pos (by omega)]
      have HE := hidH e0
      clear e0 h5
      go_enter Try.func111, Try.ntmps111
      go_wp2_with (first | (go_at_call 104; refine (isWord_any _ _).mono ?_; rintro e w' ⟨rfl, rfl⟩))
      go_loopw [3, 17] (fun t i wr => ∃ (j : Nat) (a : Int), j ≤ y.Gaps.length ∧ t = .int .i64 a ∧ i = .int .i64 j ∧ Below w.heap.size w wr ∧ 0 ≤ a ∧ a ≤ 65535 ∧ okGaps a (y.Gaps.drop j) = okGaps 0 y.Gaps) (fun _ i _ => y.Gaps.length - (intOf i).toNat)
      case atStart => exact ⟨0, 0, by omega, rfl, rfl, HB.out, by omega, by omega, by simp⟩
      case round =>
        obtain ⟨j, a, hj, rfl, rfl, hB, ha0, ha1, hk2⟩ := hrel
        by_cases hlt : j < y.Gaps.length
        · have hj0 : (0 : Int) ≤ (j : Int) := by omega
          have hj1 : (j : Int) < (y.Gaps.length : Int) := by omega
          obtain ⟨gb, ob, cb, eb, hgb, RB⟩ := Rd.row (f := GapM.vs) (W := 2) (fun _ => rfl) (Rd.below hB _ HI.out) hlt
          injection eb with eb1 eb2 eb3
          subst eb1 eb3
          obtain ⟨u0, p0, t0⟩ := RB 0 (.int y.Gaps[j].From) rfl
          obtain ⟨u1, p1, t1⟩ := RB 1 (.int y.Gaps[j].To) rfl
          have e0 := t0.int_out
          have e1 := t1.int_out
          subst e0 e1
          rw [Nat.add_zero] at p0
          obtain ⟨fr, hfr⟩ : ∃ k, y.Gaps[j].From = k := ⟨_, rfl⟩
          obtain ⟨tt, htt⟩ : ∃ k, y.Gaps[j].To = k := ⟨_, rfl⟩
          have HD := hidH (show okGaps 0 y.Gaps = (inB fr 2 tt && inB tt 2 65535 && decide (a + 1 < fr) && okGaps tt (y.Gaps.drop (j + 1))) by rw [← hk2, List.drop_eq_getElem_cons hlt, okGaps_cons, hfr, htt])
          rw [hfr] at p0
          rw [htt] at p1
          have HBW := hidH (bal hB (.cells #[.int .i64 fr, .int .i64 tt] 128))
          clear RB t0 t1 hk2 hfr htt hB
          by_cases c4 : fr ≤ a + 1
          · have HNO := hidH (show ksF y = 1 by rw [HE.out, HD.out, decide_eq_false (show ¬ a + 1 < fr by omega), Bool.and_false]; rfl)
            go_wp2
            go_ret
            exact ⟨ret_int HNO.out.symm, HBW.out⟩
          · by_cases c2 : tt < fr
            · have HNO := hidH (show ksF y = 1 by rw [HE.out, HD.out, inB_hi c2]; rfl)
              go_wp2
              go_ret
              exact ⟨ret_int HNO.out.symm, HBW.out⟩
            · by_cases c3 : 65535 < tt
              · have HNO := hidH (show ksF y = 1 by rw [HE.out, HD.out, inB_hi c3, Bool.and_false]; rfl)
                go_wp2
                go_ret
                exact ⟨ret_int HNO.out.symm, HBW.out⟩
              · have HY := hidH (show okGaps tt (y.Gaps.drop (j + 1)) = okGaps 0 y.Gaps by rw [HD.out, inB_yes (by omega) (by omega), inB_yes (by omega) (by omega), decide_eq_true (show a + 1 < fr by omega)]; rfl)
                go_wp2
                go_roundw
                case rel => exact ⟨j + 1, tt, by omega, rfl, by go_num, HBW.out, by omega, by omega, HY.out⟩
                case measure => simp [intOf]; omega
        · obtain rfl : j = y.Gaps.length := by omega
          rw [List.drop_length] at hk2
          have HY := hidH (show ksF y = 0 by rw [HE.out, ← hk2]; rfl)
          have HW := hidH hB
          clear hk2 hlt hj hB
          go_wp2
          go_ret
          exact ⟨ret_int HY.out.symm, HW.out⟩
  · have h1 : wB y.Cum = false := by simpa using h1
    have e : ksF y = 3 := by simp [ksF, h1]
    rw [e]
    clear e
    go_enter Try.func111, Try.ntmps111
    go_wp2_with (first | (go_at_call 104; refine (isWord_any _ _).mono ?_; rintro e w' ⟨rfl, rfl⟩))
    go_ret
    exact ⟨rfl, HB.out⟩
end Go.Proofs.Ytgghelpbobbkgaa
