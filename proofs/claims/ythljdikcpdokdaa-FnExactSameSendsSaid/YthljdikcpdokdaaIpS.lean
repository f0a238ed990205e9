/- The program's isPair, isStream, isAddr; the faults' little tests. -/
import Derived.Test.YthljdikcpdokdaaWrI
import Derived.Test.YthljdikcpdokdaaP5
namespace Go.Proofs.Ythljdikcpdokdaa
open Go.RowKit Go.Deep

set_option maxHeartbeats 400000 in
theorem isPair_any (a : Int) (w : World) : Calls Try.prog 81 #[.int .i64 a] w fun e w' => e = .returned (.bool (inB a 0 65535)) ∧ w = w' := by
  by_cases h0 : 0 ≤ a
  · by_cases h1 : a ≤ 65535
    · rw [inB_yes h0 h1]
      go_enter Try.func81, Try.ntmps81
      go_wp2
      go_ret
      exact ⟨rfl, rfl⟩
    · rw [inB_hi (by omega)]
      go_enter Try.func81, Try.ntmps81
      go_wp2
      go_ret
      exact ⟨rfl, rfl⟩
  · rw [inB_lo (by omega)]
    go_enter Try.func81, Try.ntmps81
    go_wp2
    go_ret
    exact ⟨rfl, rfl⟩
set_option maxHeartbeats 400000 in
theorem isAddr_any (a : Int) (w : World) : Calls Try.prog 222 #[.int .i64 a] w fun e w' => e = .returned (.bool (inB a 1 255)) ∧ w = w' := by
  by_cases h0 : 1 ≤ a
  · by_cases h1 : a ≤ 255
    · rw [inB_yes h0 h1]
      go_enter Try.func222, Try.ntmps222
      go_wp2
      go_ret
      exact ⟨rfl, rfl⟩
    · rw [inB_hi (by omega)]
      go_enter Try.func222, Try.ntmps222
      go_wp2
      go_ret
      exact ⟨rfl, rfl⟩
  · rw [inB_lo (by omega)]
    go_enter Try.func222, Try.ntmps222
    go_wp2
    go_ret
    exact ⟨rfl, rfl⟩
set_option maxHeartbeats 400000 in
theorem isStream_any (a : Int) (w : World) : Calls Try.prog 155 #[.int .i64 a] w fun e w' => e = .returned (.bool (inB a 0 9)) ∧ w = w' := by
  by_cases h0 : 0 ≤ a
  · by_cases h1 : a ≤ 9
    · rw [inB_yes h0 h1]
      have h2 : a < 10 := by omega
      go_enter Try.func155, Try.ntmps155
      go_wp2
      go_ret
      exact ⟨rfl, rfl⟩
    · rw [inB_hi (by omega)]
      have h2 : ¬ a < 10 := by omega
      go_enter Try.func155, Try.ntmps155
      go_wp2
      go_ret
      exact ⟨rfl, rfl⟩
  · rw [inB_lo (by omega)]
    go_enter Try.func155, Try.ntmps155
    go_wp2
    go_ret
    exact ⟨rfl, rfl⟩
set_option maxHeartbeats 400000 in
theorem isOp_any (k a : Int) (w : World) : Calls Try.prog 225 #[.agg #[.int .i64 k, .int .i64 a]] w fun e w' => e = .returned (.bool (inB k 1 3 && inB a 1 255)) ∧ w.alloc (.cells #[.int .i64 k, .int .i64 a] 257) = w' := by
  by_cases h0 : 1 ≤ k
  · by_cases h1 : k ≤ 3
    · rw [inB_yes h0 h1, Bool.true_and]
      go_enter Try.func225, Try.ntmps225
      go_wp2_with (go_at_call 222; refine (isAddr_any _ _).mono ?_; rintro e w' ⟨rfl, rfl⟩)
      go_ret
      exact ⟨rfl, rfl⟩
    · rw [inB_hi (by omega), Bool.false_and]
      go_enter Try.func225, Try.ntmps225
      go_wp2
      go_ret
      exact ⟨rfl, rfl⟩
  · rw [inB_lo (by omega), Bool.false_and]
    go_enter Try.func225, Try.ntmps225
    go_wp2
    go_ret
    exact ⟨rfl, rfl⟩
end Go.Proofs.Ythljdikcpdokdaa
