/- What SerialLess answers, the program's and the model's, and what the comparison of two IntResults answers. No condition. -/
import Derived.Test.YthljdikcpdokdaaWords
namespace Go.Proofs.Ythljdikcpdokdaa
open Go.RowKit

def lessB (a b : Int) : Bool := inB (gapV a b) 1 2147483647
theorem gapV_no {a b : Int} (h : ¬ (IsW a ∧ IsW b)) : gapV a b = 0 := by rw [gapV, if_neg h]
theorem addC_no {a b : Int} (h : ¬ (IsW a ∧ IsW b)) : addC a b = 3 := by rw [addC, if_neg h]
theorem addC_yes {a b : Int} (h : IsW a ∧ IsW b) : addC a b = 0 := by rw [addC, if_pos h]

set_option maxHeartbeats 400000 in
theorem less_impl (a b : Int) (w : World) : Calls Try.prog 174 #[.int .i64 a, .int .i64 b] w fun e w' => e = .returned (.bool (lessB a b)) ∧ Below w.heap.size w w' := by
  by_cases h : IsW a ∧ IsW b
  · have hc : (addC a b == 0) = true := by rw [addC_yes h]; rfl
    by_cases h1 : 1 ≤ gapV a b
    · have e : lessB a b = decide (gapV a b ≤ 2147483647) := by simp [lessB, inB, h1]
      rw [e]
      clear e h
      go_enter Try.func174, Try.ntmps174
      go_wp2_with (go_at_call 17; refine (gap_impl _ _ _).mono ?_; rintro e w' ⟨rfl, rfl⟩)
      go_ret
      exact ⟨rfl, bal (bal (Below.refl _ _) _) _⟩
    · have e : lessB a b = false := inB_lo (by omega)
      rw [e]
      have h2 : gapV a b < 1 := by omega
      clear e h h1
      go_enter Try.func174, Try.ntmps174
      go_wp2_with (go_at_call 17; refine (gap_impl _ _ _).mono ?_; rintro e w' ⟨rfl, rfl⟩)
      go_ret
      exact ⟨rfl, bal (bal (Below.refl _ _) _) _⟩
  · have hc : (addC a b == 0) = false := by rw [addC_no h]; rfl
    have e : lessB a b = false := by rw [lessB, gapV_no h]; rfl
    rw [e]
    clear e h
    go_enter Try.func174, Try.ntmps174
    go_wp2_with (go_at_call 17; refine (gap_impl _ _ _).mono ?_; rintro e w' ⟨rfl, rfl⟩)
    go_ret
    exact ⟨rfl, bal (bal (Below.refl _ _) _) _⟩
set_option maxHeartbeats 400000 in
theorem l1Less_any (a b : Int) (w : World) (h : IsW a ∧ IsW b) : Calls Try.prog 136 #[.int .i64 a, .int .i64 b] w fun e w' => e = .returned (.bool (lessB a b)) ∧ w = w' := by
  rw [lessB, gapV, if_pos h]
  obtain ⟨⟨h1, h2⟩, h3, h4⟩ := h
  go_enter Try.func136, Try.ntmps136
  go_wp2_with (first | (go_at_call 83; refine (l1Gap_any _ _ _ (by omega) (by omega) (by omega) (by omega)).mono ?_; rintro e w' ⟨rfl, rfl⟩) | (go_at_call 84; refine (in_any _ _ _ _).mono ?_; rintro e w' ⟨rfl, rfl⟩))
  go_ret
  exact ⟨rfl, rfl⟩
set_option maxHeartbeats 400000 in
theorem eqIR_any (c v : Int) (w : World) : Calls Try.prog 54 #[.agg #[.int .i64 c, .int .i64 v], .agg #[.int .i64 c, .int .i64 v]] w fun e w' => e = .returned (.bool true) ∧ Below w.heap.size w w' := by
  go_enter Try.func54, Try.ntmps54
  go_wp2
  go_ret
  exact ⟨rfl, bal (bal (Below.refl _ _) _) _⟩
end Go.Proofs.Ythljdikcpdokdaa
