/- What SerialLess answers, the program's and the model's, and what the comparison of two IntResults answers. No condition. -/
import Derived.Test.YtepcikghhnfacaaWords
namespace Go.Proofs.Ytepcikghhnfacaa
open Go.RowKit

def lessB (a b : Int) : Bool := inB (gapV a b) 1 2147483647
theorem gapV_no {a b : Int} (h : ¬ (IsW a ∧ IsW b)) : gapV a b = 0 := by rw [gapV, if_neg h]
theorem addC_no {a b : Int} (h : ¬ (IsW a ∧ IsW b)) : addC a b = 3 := by rw [addC, if_neg h]
theorem addC_yes {a b : Int} (h : IsW a ∧ IsW b) : addC a b = 0 := by rw [addC, if_pos h]

set_option maxHeartbeats 400000 in
theorem eqIR_any (c v : Int) (w : World) : Calls Try.prog 35 #[.agg #[.int .i64 c, .int .i64 v], .agg #[.int .i64 c, .int .i64 v]] w fun e w' => e = .returned (.bool true) ∧ Below w.heap.size w w' := by
  go_enter Try.func35, Try.ntmps35
  go_wp2
  go_ret
  exact ⟨rfl, bal (bal (Below.refl _ _) _) _⟩
end Go.Proofs.Ytepcikghhnfacaa
