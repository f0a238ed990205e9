/- Copies whose address is left open, for the exact laws. -/
import Derived.Test.YtacdnednkglobaaComOf
import Derived.Test.YtacdnednkglobaaMa1
namespace Go.Proofs.Ytacdnednkglobaa
open Go.RowKit Go.Deep

theorem padM_le (l : List Int) : ((padM l).length : Int) ≤ 100000 := by
  unfold padM; split
  · rw [padL_len]; unfold zerosN; omega
  · simp
theorem schM_le (l : List Int) : ((schM l).length : Int) ≤ 100000 := by
  unfold schM; split
  · rw [ci_len, schedN, schedTo_len]; omega
  · simp
theorem comM_le (s l : List Int) : ((comM s l).length : Int) ≤ 100000 := by
  unfold comM; split
  · split
    · rw [ci_len]; simp [compN]
    · simp
  · simp
end Go.Proofs.Ytacdnednkglobaa
