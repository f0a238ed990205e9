/- Chapter 8: the program's cutFault. (WRITTEN BY tools/cutf8.py) -/
import Derived.Test.YtbfbfimmhpijfaaS8CS
namespace Go.Proofs.Ytbfbfimmhpijfaa
open Go.RowKit Go.Deep

set_option maxRecDepth 100000 in
set_option maxHeartbeats 4000000 in
theorem cf_impl (y : MessageM) (vs : List Value) (s t q : Int) (u : World) (h : RdA u y.vs vs) : Calls Try.prog 44 #[.agg vs.toArray, .int .i64 s, .int .i64 t, .int .i64 q] u (IntR (cutF y s t q) u) := by
  obtain ⟨A, c, rfl, _⟩ := msg_sh h
  have K1 := Blk.new u 25 #[.int .i64 y.Stream, .bool y.Unordered, .slice A y.Bytes.length c]
  have B1 := bal (Below.refl u.heap.size u) (.cells #[.int .i64 y.Stream, .bool y.Unordered, .slice A y.Bytes.length c] 25)
  have HMS := hidH (msFw_impl y _ _ (RdA.below B1 h))
  have HB1 := hidH B1
  have HK1 := hidH K1
  obtain ⟨F, hF⟩ : ∃ F, msF y = F := ⟨_, rfl⟩
  rw [hF] at HMS
  have HF := hidH hF
  clear hF h B1 K1
  go_enter Try.func44, Try.ntmps44
  go_wp2_with fail
  refine HMS.out.mono ?_
  rintro e w2 ⟨rfl, b2⟩
  have HB2 := hidH (btr HB1.out b2)
  have K2 := HK1.out.below b2
  clear HMS b2
  have y1 := K2.cell 1
  simp only [List.getElem?_toArray, List.getElem?_cons_succ, List.getElem?_cons_zero] at y1
  have g1 := K2.lt
  clear K2
  by_cases hz : F = 0
  case neg =>
    have hz2 : (F != 0) = true := by rw [bne_iff_ne]; exact hz
    have HE := hidH (show cutF y s t q = F from (cutF_msg (by rw [HF.out]; exact hz)).trans HF.out)
    clear hz y1 g1
    go_wp2
    go_ret
    exact ⟨ret_int HE.out.symm, HB2.out⟩
  subst hz
  by_cases hr : (inB s 4 100 && wB t && inB q 0 65535) = true
  case neg =>
    have hr2 : (inB s 4 100 && wB t && inB q 0 65535) = false := by simpa using hr
    have HE := hidH (show cutF y s t q = 3 from cutF_range HF.out hr2)
    clear hr y1 g1
    by_cases s0 : s < 4
    · clear hr2
      go_wp2
      go_ret
      exact ⟨ret_int HE.out.symm, HB2.out⟩
    by_cases s1 : 100 < s
    · clear hr2
      go_wp2
      go_ret
      exact ⟨ret_int HE.out.symm, HB2.out⟩
    rw [show inB s 4 100 = true by simp only [inB, Bool.and_eq_true, decide_eq_true_eq]; omega, Bool.true_and] at hr2
    obtain ⟨a2, ha2⟩ : ∃ a, wB t = a := ⟨_, rfl⟩
    obtain ⟨a3, ha3⟩ : ∃ a, inB q 0 65535 = a := ⟨_, rfl⟩
    rw [ha2, ha3] at hr2
    cases a2
    case false =>
      clear hr2
      go_wp2_with (first | (go_at_call 75; refine (isWord_any _ _).mono ?_; rintro e w' ⟨rfl, rfl⟩) | (go_at_call 76; refine (isPair_any _ _).mono ?_; rintro e w' ⟨rfl, rfl⟩))
      go_ret
      exact ⟨ret_int HE.out.symm, HB2.out⟩
    have ha3f : a3 = false := by simpa using hr2
    subst ha3f
    clear hr2
    go_wp2_with (first | (go_at_call 75; refine (isWord_any _ _).mono ?_; rintro e w' ⟨rfl, rfl⟩) | (go_at_call 76; refine (isPair_any _ _).mono ?_; rintro e w' ⟨rfl, rfl⟩))
    go_ret
    exact ⟨ret_int HE.out.symm, HB2.out⟩
  have hr3 := hr
  simp only [Bool.and_eq_true] at hr3
  obtain ⟨⟨ha1, ha2⟩, ha3⟩ := hr3
  have s1 := inB_out ha1
  have s2 : ¬ s < 4 := by omega
  have s3 : ¬ 100 < s := by omega
  obtain ⟨ub, hub⟩ : ∃ b, y.Unordered = b := ⟨_, rfl⟩
  by_cases hf : y.Unordered = true ∧ q ≠ 0
  case pos =>
    have HE := hidH (show cutF y s t q = 1 from cutF_form HF.out hr hf)
    have hq : (q != 0) = true := by rw [bne_iff_ne]; exact hf.2
    rw [hf.1] at y1
    clear hf hr hub s1
    go_wp2_with (first | (go_at_call 75; refine (isWord_any _ _).mono ?_; rintro e w' ⟨rfl, rfl⟩) | (go_at_call 76; refine (isPair_any _ _).mono ?_; rintro e w' ⟨rfl, rfl⟩))
    go_ret
    exact ⟨ret_int HE.out.symm, HB2.out⟩
  have HE := hidH (show cutF y s t q = 0 from cutF_ok HF.out hr hf)
  clear s1 hr
  cases ub
  · rw [hub] at y1
    clear hf hub
    go_wp2_with (first | (go_at_call 75; refine (isWord_any _ _).mono ?_; rintro e w' ⟨rfl, rfl⟩) | (go_at_call 76; refine (isPair_any _ _).mono ?_; rintro e w' ⟨rfl, rfl⟩))
    go_ret
    exact ⟨ret_int HE.out.symm, HB2.out⟩
  · have hq : (q != 0) = false := by rw [bne_eq_false_iff_eq]; exact Classical.byContradiction fun h => hf ⟨hub, h⟩
    rw [hub] at y1
    clear hf hub
    go_wp2_with (first | (go_at_call 75; refine (isWord_any _ _).mono ?_; rintro e w' ⟨rfl, rfl⟩) | (go_at_call 76; refine (isPair_any _ _).mono ?_; rintro e w' ⟨rfl, rfl⟩))
    go_ret
    exact ⟨ret_int HE.out.symm, HB2.out⟩
end Go.Proofs.Ytbfbfimmhpijfaa
