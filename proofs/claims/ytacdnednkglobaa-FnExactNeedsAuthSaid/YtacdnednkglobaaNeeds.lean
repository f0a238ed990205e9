/- Chapter 7: NeedsAuth. -/
import Derived.Test.YtacdnednkglobaaWords
namespace Go.Proofs.Ytacdnednkglobaa
open Go.RowKit

def naB (k : Int) : Bool := k == 193 || k == 128
set_option maxHeartbeats 400000 in
theorem na_spec (k : Int) (u : World) : Calls Try.prog 6 #[.int .i64 k] u fun e w' => e = .returned (.bool (naB k)) ∧ u = w' := by
  by_cases h : k = 193
  · subst h
    go_enter Try.func6, Try.ntmps6
    go_wp2
    go_ret
    exact ⟨rfl, rfl⟩
  · have e : naB k = (k == 128) := by simp [naB, h]
    have q : (k == 193) = false := by simp [h]
    rw [e]
    clear h e
    go_enter Try.func6, Try.ntmps6
    go_wp2
    go_ret
    exact ⟨rfl, rfl⟩
set_option maxHeartbeats 400000 in
theorem na_impl (k : Int) (u : World) : Calls Try.prog 7 #[.int .i64 k] u fun e w' => e = .returned (.bool (naB k)) ∧ u = w' := by
  by_cases h : k = 193
  · subst h
    go_enter Try.func7, Try.ntmps7
    go_wp2
    go_ret
    exact ⟨rfl, rfl⟩
  · have e : naB k = (k == 128) := by simp [naB, h]
    have q : (k == 193) = false := by simp [h]
    rw [e]
    clear h e
    go_enter Try.func7, Try.ntmps7
    go_wp2
    go_ret
    exact ⟨rfl, rfl⟩
end Go.Proofs.Ytacdnednkglobaa
