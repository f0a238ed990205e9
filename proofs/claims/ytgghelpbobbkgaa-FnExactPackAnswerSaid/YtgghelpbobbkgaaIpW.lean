/- The program's Answer: fault. -/
import Derived.Test.YtgghelpbobbkgaaIpS
namespace Go.Proofs.Ytgghelpbobbkgaa
open Go.RowKit Go.Deep

set_option maxRecDepth 100000 in
set_option maxHeartbeats 8000000 in
theorem paF_impl (y : AnswerM) (vs : List Value) (w : World) (h : RdA w y.vs vs) :
    Calls Try.prog 119 #[.agg vs.toArray] w fun e w' => e = .returned (.int .i64 (paF y)) ∧ Below w.heap.size w w' := by
  obtain ⟨A, c, rfl⟩ := shape_Answer h
  have h' : RdA w [.int y.Serial, .is y.Codes] _ := h
  have hA := h'.tl.hd
  have hm : (y.Codes.length : Int) ≤ 9223372036854775807 := (hA.is_out).choose_spec.choose_spec.2.1.len
  have K1 := Blk.new w 76 #[.int .i64 y.Serial, .slice A y.Codes.length c]
  have B1 := bal (Below.refl w.heap.size w) (.cells #[.int .i64 y.Serial, .slice A y.Codes.length c] 76)
  obtain ⟨w1, hw1⟩ : ∃ w1, w.alloc (.cells #[.int .i64 y.Serial, .slice A y.Codes.length c] 76) = w1 := ⟨_, rfl⟩
  rw [hw1] at K1 B1
  have k0 := K1.cell 0
  have k1 := K1.cell 1
  simp only [List.getElem?_toArray, List.getElem?_cons_succ, List.getElem?_cons_zero] at k0 k1
  have hk := K1.lt
  have HI := hidH hA
  have HB := hidH B1
  clear h h' hA K1 B1
  by_cases h1 : wB y.Serial = true
  · by_cases h4 : y.Codes.length < 1
    · have e : paF y = 2 := by simp only [paF, h1, if_true]; rw [if_neg (by omega)]
      have h4' : ((y.Codes.length : Int) == 0) = true := by rw [beq_iff_eq]; omega
      rw [e]
      clear e h4
      go_enter Try.func119, Try.ntmps119
      go_wp2_with (first | (go_at_call 104; refine (isWord_any _ _).mono ?_; rintro e w' ⟨rfl, rfl⟩))
      go_ret
      exact ⟨rfl, HB.out⟩
    · have h4' : ((y.Codes.length : Int) == 0) = false := by rw [beq_eq_false_iff_ne]; omega
      by_cases h5 : 4 < y.Codes.length
      · have e : paF y = 2 := by simp only [paF, h1, if_true]; rw [if_neg (by omega)]
        have h5' : (4 : Int) < (y.Codes.length : Int) := by omega
        rw [e]
        clear e h4 h5
        go_enter Try.func119, Try.ntmps119
        go_wp2_with (first | (go_at_call 104; refine (isWord_any _ _).mono ?_; rintro e w' ⟨rfl, rfl⟩))
        go_ret
        exact ⟨rfl, HB.out⟩
      · have h5' : ¬ (4 : Int) < (y.Codes.length : Int) := by omega
        have e0 : paF y = if okCs y.Codes then 0 else 3 := by simp only [paF, h1, if_true]; rw [if_pos (by omega)]
        have HE := hidH e0
        have HX := hidH (isOf (Rd.below HB.out _ HI.out))
        clear e0 h4 h5
        go_enter Try.func119, Try.ntmps119
        go_wp2_with (first | (go_at_call 104; refine (isWord_any _ _).mono ?_; rintro e w' ⟨rfl, rfl⟩))
        go_loopw [22] (fun i wr => ∃ j : Nat, j ≤ y.Codes.length ∧ i = .int .i64 j ∧ wr = w1 ∧ ∀ k, k < j → inB (y.Codes.getD k 0) 0 20 = true) (fun i _ => y.Codes.length - (intOf i).toNat)
        case atStart => exact ⟨0, by omega, rfl, rfl, fun k hk => by omega⟩
        case round =>
          obtain ⟨j, hj, rfl, rfl, hk2⟩ := hrel
          by_cases hlt : j < y.Codes.length
          · have hj0 : (0 : Int) ≤ (j : Int) := by omega
            have hj1 : (j : Int) < (y.Codes.length : Int) := by omega
            obtain ⟨b, off, rfl, hcell⟩ : ∃ b off, A = some ⟨b, off, none⟩ ∧ wr.cell? ⟨b, off + j, none⟩ = some (.int .i64 (y.Codes.getD j 0)) := by
              rcases HX.out with h | ⟨b, off, e, _, h⟩
              · rw [h] at hlt; simp at hlt
              · exact ⟨b, off, e, h j hlt⟩
            have HK := hidH hk2
            obtain ⟨x, hx⟩ : ∃ x, y.Codes.getD j 0 = x := ⟨_, rfl⟩
            rw [hx] at hcell
            have HXX := hidH hx
            clear hk2 hx
            by_cases v0 : x < 0
            · have HNO := hidH (show paF y = 3 by
                rw [HE.out, if_neg]
                intro h
                have := h j hlt
                rw [HXX.out, inB_lo v0] at this
                cases this)
              go_wp2
              go_ret
              exact ⟨ret_int HNO.out.symm, HB.out⟩
            · by_cases v1 : 20 < x
              · have HNO := hidH (show paF y = 3 by
                  rw [HE.out, if_neg]
                  intro h
                  have := h j hlt
                  rw [HXX.out, inB_hi v1] at this
                  cases this)
                go_wp2
                go_ret
                exact ⟨ret_int HNO.out.symm, HB.out⟩
              · have HN := hidH (show ∀ k, k < j + 1 → inB (y.Codes.getD k 0) 0 20 = true from fun k hk => by
                  by_cases e : k = j
                  · subst e; rw [HXX.out]; exact inB_yes (by omega) (by omega)
                  · exact HK.out k (by omega))
                go_wp2
                go_roundw
                case rel => exact ⟨j + 1, by omega, by go_num, trivial, HN.out⟩
                case measure => simp [intOf]; omega
          · obtain rfl : j = y.Codes.length := by omega
            have HY := hidH (show paF y = 0 by rw [HE.out, if_pos (show okCs y.Codes from hk2)])
            clear hk2 hlt hj
            go_wp2
            go_ret
            exact ⟨ret_int HY.out.symm, HB.out⟩
  · have h1 : wB y.Serial = false := by simpa using h1
    have e : paF y = 3 := by simp [paF, h1]
    rw [e]
    clear e
    go_enter Try.func119, Try.ntmps119
    go_wp2_with (first | (go_at_call 104; refine (isWord_any _ _).mono ?_; rintro e w' ⟨rfl, rfl⟩))
    go_ret
    exact ⟨rfl, HB.out⟩
end Go.Proofs.Ytgghelpbobbkgaa
