/- The model's chapter 5: l5SackFault. -/
import Derived.Test.YthljdikcpdokdaaNb0
namespace Go.Proofs.Ythljdikcpdokdaa
open Go.RowKit Go.Deep


set_option maxRecDepth 100000 in
set_option maxHeartbeats 8000000 in
theorem ksF_any (g o : Nat) (y : SackM) (w : World) (h : RdL w y.vs g o) :
    Calls Try.prog 77 #[.pointer (some ⟨g, o, none⟩)] w fun e w' => e = .returned (.int .i64 (ksF y)) ∧ Below w.heap.size w w' := by
  have hg0 : ∃ u, w.cell? ⟨g, o, none⟩ = some u := by obtain ⟨u, h1, _⟩ := h.get? 0 _ rfl; exact ⟨u, by simpa using h1⟩
  have hg : g < w.heap.size := by obtain ⟨u, h1⟩ := hg0; exact World.block_lt_of_cell? _ _ h1
  obtain ⟨A, c, q0, q1, hA⟩ := mem_Sack h
  have hm : (y.Gaps.length : Int) ≤ 9223372036854775807 := Rd.st_len hA
  have HI := hidH (fun (u : World) (h : Below w.heap.size w u) => Rd.below h _ hA)
  have HQ := hidH q1
  clear h hA hg0
  by_cases h1 : wB y.Cum = true
  · by_cases h5 : 20 < y.Gaps.length
    · have e : ksF y = 2 := by simp only [ksF, h1, if_true]; rw [if_neg (by omega)]
      have h5' : (20 : Int) < (y.Gaps.length : Int) := by omega
      rw [e]
      clear e h5
      go_enter Try.func77, Try.ntmps77
      go_wp2_with (first | (go_at_call 82; refine (word32_any _ _).mono ?_; rintro e w' ⟨rfl, rfl⟩))
      go_ret
      exact ⟨rfl, Below.refl _ _⟩
    · have h5' : ¬ (20 : Int) < (y.Gaps.length : Int) := by omega
      have e0 : ksF y = if okGaps 0 y.Gaps then 0 else 1 := by simp only [ksF, h1, if_true]; rw [if_pos (by omega)]
      have HE := hidH e0
      clear e0 h5
      go_enter Try.func77, Try.ntmps77
      go_wp2_with (first | (go_at_call 82; refine (word32_any _ _).mono ?_; rintro e w' ⟨rfl, rfl⟩))
      go_loopw [3, 4] (fun t i wr => ∃ (j : Nat) (a : Int), j ≤ y.Gaps.length ∧ t = .int .i64 a ∧ i = .int .i64 j ∧ Below w.heap.size w wr ∧ 0 ≤ a ∧ a ≤ 65535 ∧ (j = 0 → a = 0) ∧ okGaps a (y.Gaps.drop j) = okGaps 0 y.Gaps) (fun _ i _ => y.Gaps.length - (intOf i).toNat)
      case atStart => exact ⟨0, 0, by omega, rfl, rfl, Below.refl _ _, by omega, by omega, fun _ => rfl, by simp⟩
      case round =>
        obtain ⟨j, a, hj, rfl, rfl, hB, ha0, ha1, hja, hk⟩ := hrel
        have q1 := (hB.cell (p := ⟨g, o + 1, none⟩) hg).trans HQ.out
        by_cases hlt : j < y.Gaps.length
        · have hj0 : (0 : Int) ≤ (j : Int) := by omega
          have hj1 : (j : Int) < (y.Gaps.length : Int) := by omega
          obtain ⟨gb, ob, cb, eb, hgb, RB⟩ := Rd.row (f := GapM.vs) (W := 2) (fun _ => rfl) (HI.out _ hB) hlt
          injection eb with eb1 eb2 eb3
          subst eb1 eb3
          obtain ⟨u0, p0, t0⟩ := RB 0 (.int y.Gaps[j].From) rfl
          obtain ⟨u1, p1, t1⟩ := RB 1 (.int y.Gaps[j].To) rfl
          have e0 := t0.int_out
          have e1 := t1.int_out
          subst e0 e1
          rw [Nat.add_zero] at p0
          obtain ⟨fr, hfr⟩ : ∃ k, y.Gaps[j].From = k := ⟨_, rfl⟩
          obtain ⟨tt, htt⟩ : ∃ k, y.Gaps[j].To = k := ⟨_, rfl⟩
          have hd : okGaps 0 y.Gaps = (inB fr 2 tt && inB tt 2 65535 && decide (a + 1 < fr) && okGaps tt (y.Gaps.drop (j + 1))) := by rw [← hk, List.drop_eq_getElem_cons hlt, okGaps_cons, hfr, htt]
          have HD := hidH hd
          rw [hfr] at p0
          rw [htt] at p1
          have HBW := hidH (bal hB (.cells #[.int .i64 fr, .int .i64 tt] 36))
          have HJA := hidH hja
          clear RB t0 t1 hk hd hfr htt hB hja
          by_cases c1 : fr < 2
          · have HNO := hidH (show ksF y = 1 by rw [HE.out, HD.out, inB_lo c1]; rfl)
            go_wp2
            go_ret
            exact ⟨ret_int HNO.out.symm, HBW.out⟩
          · by_cases c2 : tt < fr
            · have HNO := hidH (show ksF y = 1 by rw [HE.out, HD.out, inB_hi c2]; rfl)
              go_wp2
              go_ret
              exact ⟨ret_int HNO.out.symm, HBW.out⟩
            · by_cases c3 : 65535 < tt
              · have HNO := hidH (show ksF y = 1 by rw [HE.out, HD.out, inB_hi c3, Bool.and_false]; rfl)
                go_wp2
                go_ret
                exact ⟨ret_int HNO.out.symm, HBW.out⟩
              · by_cases c4 : a + 1 < fr
                · have HY := hidH (show okGaps tt (y.Gaps.drop (j + 1)) = okGaps 0 y.Gaps by rw [HD.out, inB_yes (by omega) (by omega), inB_yes (by omega) (by omega), decide_eq_true c4]; rfl)
                  by_cases c0 : (0 : Int) < (j : Int)
                  · have c4' : ¬ fr ≤ a + 1 := by omega
                    go_wp2
                    go_roundw
                    case rel => exact ⟨j + 1, tt, by omega, rfl, by go_num, HBW.out, by omega, by omega, fun h => by omega, HY.out⟩
                    case measure => simp [intOf]; omega
                  · go_wp2
                    go_roundw
                    case rel => exact ⟨j + 1, tt, by omega, rfl, by go_num, HBW.out, by omega, by omega, fun h => by omega, HY.out⟩
                    case measure => simp [intOf]; omega
                · have c0 : (0 : Int) < (j : Int) := by
                    rcases Nat.eq_zero_or_pos j with h | h
                    · have := HJA.out h; omega
                    · omega
                  have c4' : fr ≤ a + 1 := by omega
                  have HNO := hidH (show ksF y = 1 by rw [HE.out, HD.out, decide_eq_false c4, Bool.and_false]; rfl)
                  go_wp2
                  go_ret
                  exact ⟨ret_int HNO.out.symm, HBW.out⟩
        · obtain rfl : j = y.Gaps.length := by omega
          rw [List.drop_length] at hk
          have HY := hidH (show ksF y = 0 by rw [HE.out, ← hk]; rfl)
          have HBW := hidH hB
          clear hk hlt hj hB hja
          go_wp2
          go_ret
          exact ⟨ret_int HY.out.symm, HBW.out⟩
  · have h1 : wB y.Cum = false := by simpa using h1
    have e : ksF y = 3 := by simp [ksF, h1]
    rw [e]
    clear e
    go_enter Try.func77, Try.ntmps77
    go_wp2_with (first | (go_at_call 82; refine (word32_any _ _).mono ?_; rintro e w' ⟨rfl, rfl⟩))
    go_ret
    exact ⟨rfl, Below.refl _ _⟩
end Go.Proofs.Ythljdikcpdokdaa
