/- What SerialLess answers, the program's and the model's, and what the comparison of two IntResults answers. No condition. -/
import Derived.Test.YtbfbfimmhpijfaaWords
namespace Go.Proofs.Ytbfbfimmhpijfaa
open Go.RowKit

def lessB (a b : Int) : Bool := inB (gapV a b) 1 2147483647
theorem gapV_no {a b : Int} (h : ¬ (IsW a ∧ IsW b)) : gapV a b = 0 := by rw [gapV, if_neg h]
theorem addC_no {a b : Int} (h : ¬ (IsW a ∧ IsW b)) : addC a b = 3 := by rw [addC, if_neg h]
theorem addC_yes {a b : Int} (h : IsW a ∧ IsW b) : addC a b = 0 := by rw [addC, if_pos h]

end Go.Proofs.Ytbfbfimmhpijfaa
