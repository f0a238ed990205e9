/- The program's wordAfter. -/
import Derived.Test.YtbfbfimmhpijfaaWords
namespace Go.Proofs.Ytbfbfimmhpijfaa
open Go.RowKit

set_option maxHeartbeats 400000 in
theorem wa_any (n : Int) (w : World) (h1 : 0 ≤ n) (h2 : n ≤ 4294967295) : Calls Try.prog 47 #[.int .i64 n] w fun e w' => e = .returned (.int .i64 ((n + 1) % 4294967296)) ∧ w' = w := by
  go_enter Try.func47, Try.ntmps47
  go_wp2
  go_ret
  exact ⟨rfl, rfl⟩
end Go.Proofs.Ytbfbfimmhpijfaa
