/- The program's isId. -/
import Derived.Test.YtacdnednkglobaaDoorInts
namespace Go.Proofs.YtacdnednkglobaaDoor
open Go.RowKit Go.Deep

set_option maxHeartbeats 400000 in
theorem isId_any (n : Int) (w : World) : Calls Tryd.prog 101 #[.int .i64 n] w fun e w' => e = .returned (.bool (inB n 0 99)) ∧ w = w' := by
  by_cases h1 : 0 ≤ n
  · rw [show inB n 0 99 = decide (n ≤ 99) from by simp [inB, h1]]
    go_enter Tryd.func101, Tryd.ntmps101
    go_wp2
    go_ret
    exact ⟨rfl, rfl⟩
  · have h : n < 0 := by omega
    rw [show inB n 0 99 = false from inB_lo h]
    clear h1
    go_enter Tryd.func101, Tryd.ntmps101
    go_wp2
    go_ret
    exact ⟨rfl, rfl⟩
end Go.Proofs.YtacdnednkglobaaDoor
