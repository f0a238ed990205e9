/- The program's Asconf: fault. -/
import Derived.Test.YtgghelpbobbkgaaIpS
namespace Go.Proofs.Ytgghelpbobbkgaa
open Go.RowKit Go.Deep

set_option maxRecDepth 100000 in
set_option maxHeartbeats 8000000 in
theorem qaF_impl (y : AsconfM) (vs : List Value) (w : World) (h : RdA w y.vs vs) :
    Calls Try.prog 115 #[.agg vs.toArray] w fun e w' => e = .returned (.int .i64 (qaF y)) ∧ Below w.heap.size w w' := by
  obtain ⟨A, c, rfl⟩ := shape_Asconf h
  have h' : RdA w [.int y.Serial, st_AddrOp y.Ops] _ := h
  have hA := h'.tl.hd
  have hm : (y.Ops.length : Int) ≤ 9223372036854775807 := Rd.st_len hA
  have K1 := Blk.new w 67 #[.int .i64 y.Serial, .slice A y.Ops.length c]
  have B1 := bal (Below.refl w.heap.size w) (.cells #[.int .i64 y.Serial, .slice A y.Ops.length c] 67)
  obtain ⟨w1, hw1⟩ : ∃ w1, w.alloc (.cells #[.int .i64 y.Serial, .slice A y.Ops.length c] 67) = w1 := ⟨_, rfl⟩
  rw [hw1] at K1 B1
  have k0 := K1.cell 0
  have k1 := K1.cell 1
  simp only [List.getElem?_toArray, List.getElem?_cons_succ, List.getElem?_cons_zero] at k0 k1
  have hk := K1.lt
  have HI := hidH hA
  have HB := hidH B1
  clear h h' hA K1 B1
  by_cases h1 : wB y.Serial = true
  · by_cases h4 : y.Ops.length < 1
    · have e : qaF y = 2 := by simp only [qaF, h1, if_true]; rw [if_neg (by omega)]
      have h4' : ((y.Ops.length : Int) == 0) = true := by rw [beq_iff_eq]; omega
      rw [e]
      clear e h4
      go_enter Try.func115, Try.ntmps115
      go_wp2_with (first | (go_at_call 104; refine (isWord_any _ _).mono ?_; rintro e w' ⟨rfl, rfl⟩))
      go_ret
      exact ⟨rfl, HB.out⟩
    · have h4' : ((y.Ops.length : Int) == 0) = false := by rw [beq_eq_false_iff_ne]; omega
      by_cases h5 : 4 < y.Ops.length
      · have e : qaF y = 2 := by simp only [qaF, h1, if_true]; rw [if_neg (by omega)]
        have h5' : (4 : Int) < (y.Ops.length : Int) := by omega
        rw [e]
        clear e h4 h5
        go_enter Try.func115, Try.ntmps115
        go_wp2_with (first | (go_at_call 104; refine (isWord_any _ _).mono ?_; rintro e w' ⟨rfl, rfl⟩))
        go_ret
        exact ⟨rfl, HB.out⟩
      · have h5' : ¬ (4 : Int) < (y.Ops.length : Int) := by omega
        have e0 : qaF y = if y.Ops.all okOp then 0 else 3 := by simp only [qaF, h1, if_true]; rw [if_pos (by omega)]
        have HE := hidH e0
        clear e0 h4 h5
        go_enter Try.func115, Try.ntmps115
        go_wp2_with (first | (go_at_call 104; refine (isWord_any _ _).mono ?_; rintro e w' ⟨rfl, rfl⟩))
        go_loopw [22] (fun i wr => ∃ j : Nat, j ≤ y.Ops.length ∧ i = .int .i64 j ∧ Below w.heap.size w wr ∧ (y.Ops.take j).all okOp = true) (fun i _ => y.Ops.length - (intOf i).toNat)
        case atStart => exact ⟨0, by omega, rfl, HB.out, by simp⟩
        case round =>
          obtain ⟨j, hj, rfl, hB, hk2⟩ := hrel
          by_cases hlt : j < y.Ops.length
          · have hj0 : (0 : Int) ≤ (j : Int) := by omega
            have hj1 : (j : Int) < (y.Ops.length : Int) := by omega
            obtain ⟨gb, ob, cb, eb, hgb, RB⟩ := Rd.row (f := AddrOpM.vs) (W := 2) (fun _ => rfl) (Rd.below hB _ HI.out) hlt
            injection eb with eb1 eb2 eb3
            subst eb1 eb3
            obtain ⟨u0, p0, t0⟩ := RB 0 (.int y.Ops[j].Kind) rfl
            obtain ⟨u1, p1, t1⟩ := RB 1 (.int y.Ops[j].Addr) rfl
            have e0 := t0.int_out
            have e1 := t1.int_out
            subst e0 e1
            rw [Nat.add_zero] at p0
            have HT := hidH (all_take hlt hk2)
            have HN := hidH (fun h => all_not (f := okOp) hlt h)
            obtain ⟨k, hkk⟩ : ∃ k, y.Ops[j].Kind = k := ⟨_, rfl⟩
            obtain ⟨a, haa⟩ : ∃ a, y.Ops[j].Addr = a := ⟨_, rfl⟩
            have HO := hidH (show okOp y.Ops[j] = (inB k 1 3 && inB a 1 255) by rw [okOp, hkk, haa])
            rw [hkk] at p0
            rw [haa] at p1
            have HBB := hidH hB
            obtain ⟨bb, hbb⟩ : ∃ bb, (inB k 1 3 && inB a 1 255) = bb := ⟨_, rfl⟩
            have HOP := hidH (fun u => isOp_any k a u)
            rw [hbb] at HO HOP
            clear RB t0 t1 hk2 hkk haa hB hbb
            rcases Bool.eq_false_or_eq_true bb with hv | hv
            · have HY := hidH (HT.out (by rw [HO.out, hv]))
              rw [hv] at HOP
              clear hv
              go_wp2_with fail
              refine (HOP.out _).mono ?_
              rintro e w4 ⟨rfl, h4⟩
              have HW := hidH (show Below w.heap.size w w4 by rw [← h4]; exact bal (bal HBB.out _) _)
              clear h4 HOP
              go_wp2
              go_roundw
              case rel => exact ⟨j + 1, by omega, by go_num, HW.out, HY.out⟩
              case measure => simp [intOf]; omega
            · have HNO := hidH (show qaF y = 3 by rw [HE.out, if_neg (HN.out (by rw [HO.out, hv]))])
              rw [hv] at HOP
              clear hv
              go_wp2_with fail
              refine (HOP.out _).mono ?_
              rintro e w4 ⟨rfl, h4⟩
              have HW := hidH (show Below w.heap.size w w4 by rw [← h4]; exact bal (bal HBB.out _) _)
              clear h4 HOP
              go_wp2
              go_ret
              exact ⟨ret_int HNO.out.symm, HW.out⟩
          · obtain rfl : j = y.Ops.length := by omega
            rw [List.take_length] at hk2
            have HY := hidH (show qaF y = 0 by rw [HE.out, if_pos hk2])
            have HW := hidH hB
            clear hk2 hlt hj hB
            go_wp2
            go_ret
            exact ⟨ret_int HY.out.symm, HW.out⟩
  · have h1 : wB y.Serial = false := by simpa using h1
    have e : qaF y = 3 := by simp [qaF, h1]
    rw [e]
    clear e
    go_enter Try.func115, Try.ntmps115
    go_wp2_with (first | (go_at_call 104; refine (isWord_any _ _).mono ?_; rintro e w' ⟨rfl, rfl⟩))
    go_ret
    exact ⟨rfl, HB.out⟩
end Go.Proofs.Ytgghelpbobbkgaa
