/- The model's l1PairAt. -/
import Derived.Test.YtacdnednkglobaaDoorAt
namespace Go.Proofs.YtacdnednkglobaaDoor
open Go.RowKit Go.Deep

set_option maxHeartbeats 1000000 in
theorem l1PairAt_any (b off n c : Nat) (k : Nat) (p q : Int) (w : World) (hc : k + 2 ≤ n) (hm : (n : Int) ≤ 9223372036854775807)
    (hp : w.cell? ⟨b, off + k, none⟩ = some (.int .u8 p)) (hq : w.cell? ⟨b, off + (k + 1), none⟩ = some (.int .u8 q))
    (p0 : 0 ≤ p) (p1 : p ≤ 255) (q0 : 0 ≤ q) (q1 : q ≤ 255) :
    Calls Tryd.prog 64 #[.slice (some ⟨b, off, none⟩) n c, .int .i64 k] w fun e w' => e = .returned (.int .i64 (p * 256 + q)) ∧ ∃ m, w.drewN m = w' := by
  have i1 : IntKind.i64.wrap ((k : Int) + 1) = (k : Int) + 1 := IntWalk.i64_in _ (by omega)
  have t1 : ((k : Int) + 1).toNat = k + 1 := by omega
  have b0 : (k : Int) < (n : Int) := by omega
  have b1 : (k : Int) + 1 < (n : Int) := by omega
  have g1 : 0 ≤ (k : Int) + 1 := by omega
  go_enter Tryd.func64, Tryd.ntmps64
  go_wp2
  go_quiet (fail)
  go_wp2
  go_ret
  exact ⟨rfl, _, rfl⟩
end Go.Proofs.YtacdnednkglobaaDoor
