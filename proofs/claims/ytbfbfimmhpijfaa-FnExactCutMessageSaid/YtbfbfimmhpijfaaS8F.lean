/- Chapter 8: MessageFault, the model's and the program's. -/
import Derived.Test.YtbfbfimmhpijfaaM8
import Derived.Test.YtbfbfimmhpijfaaUniR
import Derived.Test.YtbfbfimmhpijfaaIpS
namespace Go.Proofs.Ytbfbfimmhpijfaa
open Go.RowKit Go.Deep

theorem msg_sh {y : MessageM} {vs : List Value} {u : World} (h : RdA u y.vs vs) : ∃ A c, vs = [.int .i64 y.Stream, .bool y.Unordered, .slice A y.Bytes.length c] ∧ (y.Bytes.length : Int) ≤ 9223372036854775807 := by
  obtain ⟨A, c, rfl⟩ := shape_Message h
  refine ⟨A, c, rfl, ?_⟩
  have h' : RdA u [.int y.Stream, .bool y.Unordered, .bs y.Bytes] _ := h
  obtain ⟨_, _, e, k, _⟩ := h'.tl.tl.hd.bs_out
  exact k.len
set_option maxRecDepth 100000 in
set_option maxHeartbeats 2000000 in
theorem msFw_spec (y : MessageM) (vs : List Value) (u : World) (h : RdA u y.vs vs) : Calls Try.prog 17 #[.agg vs.toArray] u (IntR (msF y) u) := by
  obtain ⟨A, c, rfl, hm⟩ := msg_sh h
  clear h
  have B1 := hidH (bal (Below.refl u.heap.size u) (.cells #[.int .i64 y.Stream, .bool y.Unordered, .slice A y.Bytes.length c] 25))
  by_cases h1 : inB y.Stream 0 9 = true
  case neg =>
    have h1 : inB y.Stream 0 9 = false := by simpa using h1
    rw [msF_out h1]
    go_enter Try.func17, Try.ntmps17
    go_wp2_with (first | (go_at_call 55; refine (in_any _ _ _ _).mono ?_; rintro e w' ⟨rfl, rfl⟩))
    go_ret
    exact ⟨rfl, B1.out⟩
  by_cases h2 : y.Bytes.length < 1
  · rw [msF_none h1 h2]
    have h2' : (y.Bytes.length : Int) < 1 := by omega
    clear h2
    go_enter Try.func17, Try.ntmps17
    go_wp2_with (first | (go_at_call 55; refine (in_any _ _ _ _).mono ?_; rintro e w' ⟨rfl, rfl⟩))
    go_ret
    exact ⟨rfl, B1.out⟩
  · have h2' : ¬ (y.Bytes.length : Int) < 1 := by omega
    by_cases h3 : 400 < y.Bytes.length
    · rw [msF_many h1 h3]
      have h3' : (400 : Int) < (y.Bytes.length : Int) := by omega
      clear h2 h3
      go_enter Try.func17, Try.ntmps17
      go_wp2_with (first | (go_at_call 55; refine (in_any _ _ _ _).mono ?_; rintro e w' ⟨rfl, rfl⟩))
      go_ret
      exact ⟨rfl, B1.out⟩
    · rw [msF_ok h1 h2 h3]
      have h3' : ¬ (400 : Int) < (y.Bytes.length : Int) := by omega
      clear h2 h3
      go_enter Try.func17, Try.ntmps17
      go_wp2_with (first | (go_at_call 55; refine (in_any _ _ _ _).mono ?_; rintro e w' ⟨rfl, rfl⟩))
      go_ret
      exact ⟨rfl, B1.out⟩
theorem ms_spec (y : MessageM) (vs : List Value) (u : World) (h : RdA u y.vs vs) (_ : WfA y.vs) (_ : tot.totL y.vs ≤ 1048576) : Calls Try.prog 17 #[.agg vs.toArray] u (IntR (msF y) u) := msFw_spec y vs u h
set_option maxRecDepth 100000 in
set_option maxHeartbeats 2000000 in
theorem msFw_impl (y : MessageM) (vs : List Value) (u : World) (h : RdA u y.vs vs) : Calls Try.prog 16 #[.agg vs.toArray] u (IntR (msF y) u) := by
  obtain ⟨A, c, rfl, hm⟩ := msg_sh h
  clear h
  have B1 := hidH (bal (Below.refl u.heap.size u) (.cells #[.int .i64 y.Stream, .bool y.Unordered, .slice A y.Bytes.length c] 25))
  by_cases h1 : inB y.Stream 0 9 = true
  case neg =>
    have h1 : inB y.Stream 0 9 = false := by simpa using h1
    rw [msF_out h1]
    go_enter Try.func16, Try.ntmps16
    go_wp2_with (first | (go_at_call 60; refine (isStream_any _ _).mono ?_; rintro e w' ⟨rfl, rfl⟩))
    go_ret
    exact ⟨rfl, B1.out⟩
  by_cases h2 : y.Bytes.length < 1
  · rw [msF_none h1 h2]
    have h2' : ((y.Bytes.length : Int) == 0) = true := by rw [beq_iff_eq]; omega
    clear h2
    go_enter Try.func16, Try.ntmps16
    go_wp2_with (first | (go_at_call 60; refine (isStream_any _ _).mono ?_; rintro e w' ⟨rfl, rfl⟩))
    go_ret
    exact ⟨rfl, B1.out⟩
  · have h2' : ((y.Bytes.length : Int) == 0) = false := by rw [beq_eq_false_iff_ne]; omega
    by_cases h3 : 400 < y.Bytes.length
    · rw [msF_many h1 h3]
      have h3' : (400 : Int) < (y.Bytes.length : Int) := by omega
      clear h2 h3
      go_enter Try.func16, Try.ntmps16
      go_wp2_with (first | (go_at_call 60; refine (isStream_any _ _).mono ?_; rintro e w' ⟨rfl, rfl⟩))
      go_ret
      exact ⟨rfl, B1.out⟩
    · rw [msF_ok h1 h2 h3]
      have h3' : ¬ (400 : Int) < (y.Bytes.length : Int) := by omega
      clear h2 h3
      go_enter Try.func16, Try.ntmps16
      go_wp2_with (first | (go_at_call 60; refine (isStream_any _ _).mono ?_; rintro e w' ⟨rfl, rfl⟩))
      go_ret
      exact ⟨rfl, B1.out⟩
theorem ms_impl (y : MessageM) (vs : List Value) (u : World) (h : RdA u y.vs vs) (_ : WfA y.vs) (_ : tot.totL y.vs ≤ 1048576) : Calls Try.prog 16 #[.agg vs.toArray] u (IntR (msF y) u) := msFw_impl y vs u h
end Go.Proofs.Ytbfbfimmhpijfaa
