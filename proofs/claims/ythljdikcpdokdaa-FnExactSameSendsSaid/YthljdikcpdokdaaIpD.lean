/- The program's Data: fault, flags, write. -/
import Derived.Test.YthljdikcpdokdaaIpS
namespace Go.Proofs.Ythljdikcpdokdaa
open Go.RowKit Go.Deep

set_option maxRecDepth 100000 in
set_option maxHeartbeats 2000000 in
theorem pdF_impl (y : DataM) (vs : List Value) (w : World) (h : RdA w y.vs vs) :
    Calls Try.prog 161 #[.agg vs.toArray] w fun e w' => e = .returned (.int .i64 (pdF y)) ∧ Below w.heap.size w w' := by
  obtain ⟨A, c, rfl⟩ := shape_Data h
  have hm : (y.Piece.length : Int) ≤ 9223372036854775807 := by
    have h' : RdA w [.int y.Tsn, .int y.Stream, .int y.Seq, .bool y.First, .bool y.Last, .bool y.Unordered, .bs y.Piece] _ := h
    obtain ⟨_, _, e, k, _⟩ := h'.tl.tl.tl.tl.tl.tl.hd.bs_out
    exact k.len
  clear h
  by_cases h1 : wB y.Tsn = true
  · by_cases h2 : inB y.Stream 0 9 = true
    · by_cases h3 : inB y.Seq 0 65535 = true
      · by_cases h4 : y.Piece.length < 1
        · have e : pdF y = 2 := by simp only [pdF, h1, h2, h3, Bool.and_self, if_true]; rw [if_neg (by omega)]
          have h4' : ((y.Piece.length : Int) == 0) = true := by rw [beq_iff_eq]; omega
          rw [e]
          clear e h4
          go_enter Try.func161, Try.ntmps161
          go_wp2_with (first | (go_at_call 61; refine (isWord_any _ _).mono ?_; rintro e w' ⟨rfl, rfl⟩) | (go_at_call 155; refine (isStream_any _ _).mono ?_; rintro e w' ⟨rfl, rfl⟩) | (go_at_call 81; refine (isPair_any _ _).mono ?_; rintro e w' ⟨rfl, rfl⟩))
          go_ret
          exact ⟨rfl, bal (Below.refl _ _) _⟩
        · have h4' : ((y.Piece.length : Int) == 0) = false := by rw [beq_eq_false_iff_ne]; omega
          by_cases h5 : 100 < y.Piece.length
          · have e : pdF y = 2 := by simp only [pdF, h1, h2, h3, Bool.and_self, if_true]; rw [if_neg (by omega)]
            have h5' : (100 : Int) < (y.Piece.length : Int) := by omega
            rw [e]
            clear e h4 h5
            go_enter Try.func161, Try.ntmps161
            go_wp2_with (first | (go_at_call 61; refine (isWord_any _ _).mono ?_; rintro e w' ⟨rfl, rfl⟩) | (go_at_call 155; refine (isStream_any _ _).mono ?_; rintro e w' ⟨rfl, rfl⟩) | (go_at_call 81; refine (isPair_any _ _).mono ?_; rintro e w' ⟨rfl, rfl⟩))
            go_ret
            exact ⟨rfl, bal (Below.refl _ _) _⟩
          · have h5' : ¬ (100 : Int) < (y.Piece.length : Int) := by omega
            have e0 : pdF y = if y.Unordered = true ∧ y.Seq ≠ 0 then 1 else 0 := by simp only [pdF, h1, h2, h3, Bool.and_self, if_true]; rw [if_pos (by omega)]
            rw [e0]
            clear e0 h4 h5
            by_cases h6 : y.Unordered = true
            · by_cases h7 : y.Seq = 0
              · rw [if_neg (fun h => h.2 h7)]
                have h8 : (y.Seq != 0) = false := by rw [h7]; rfl
                go_enter Try.func161, Try.ntmps161
                go_wp2_with (first | (go_at_call 61; refine (isWord_any _ _).mono ?_; rintro e w' ⟨rfl, rfl⟩) | (go_at_call 155; refine (isStream_any _ _).mono ?_; rintro e w' ⟨rfl, rfl⟩) | (go_at_call 81; refine (isPair_any _ _).mono ?_; rintro e w' ⟨rfl, rfl⟩))
                go_ret
                exact ⟨rfl, bal (Below.refl _ _) _⟩
              · rw [if_pos ⟨h6, h7⟩]
                have h8 : (y.Seq != 0) = true := by rw [bne_iff_ne]; exact h7
                go_enter Try.func161, Try.ntmps161
                go_wp2_with (first | (go_at_call 61; refine (isWord_any _ _).mono ?_; rintro e w' ⟨rfl, rfl⟩) | (go_at_call 155; refine (isStream_any _ _).mono ?_; rintro e w' ⟨rfl, rfl⟩) | (go_at_call 81; refine (isPair_any _ _).mono ?_; rintro e w' ⟨rfl, rfl⟩))
                go_ret
                exact ⟨rfl, bal (Below.refl _ _) _⟩
            · have h6 : y.Unordered = false := by simpa using h6
              rw [if_neg (fun h => by rw [h6] at h; exact Bool.noConfusion h.1)]
              go_enter Try.func161, Try.ntmps161
              go_wp2_with (first | (go_at_call 61; refine (isWord_any _ _).mono ?_; rintro e w' ⟨rfl, rfl⟩) | (go_at_call 155; refine (isStream_any _ _).mono ?_; rintro e w' ⟨rfl, rfl⟩) | (go_at_call 81; refine (isPair_any _ _).mono ?_; rintro e w' ⟨rfl, rfl⟩))
              go_ret
              exact ⟨rfl, bal (Below.refl _ _) _⟩
      · have h3 : inB y.Seq 0 65535 = false := by simpa using h3
        have e : pdF y = 3 := by simp [pdF, h3]
        rw [e]
        clear e
        go_enter Try.func161, Try.ntmps161
        go_wp2_with (first | (go_at_call 61; refine (isWord_any _ _).mono ?_; rintro e w' ⟨rfl, rfl⟩) | (go_at_call 155; refine (isStream_any _ _).mono ?_; rintro e w' ⟨rfl, rfl⟩) | (go_at_call 81; refine (isPair_any _ _).mono ?_; rintro e w' ⟨rfl, rfl⟩))
        go_ret
        exact ⟨rfl, bal (Below.refl _ _) _⟩
    · have h2 : inB y.Stream 0 9 = false := by simpa using h2
      have e : pdF y = 3 := by simp [pdF, h2]
      rw [e]
      clear e
      go_enter Try.func161, Try.ntmps161
      go_wp2_with (first | (go_at_call 61; refine (isWord_any _ _).mono ?_; rintro e w' ⟨rfl, rfl⟩) | (go_at_call 155; refine (isStream_any _ _).mono ?_; rintro e w' ⟨rfl, rfl⟩) | (go_at_call 81; refine (isPair_any _ _).mono ?_; rintro e w' ⟨rfl, rfl⟩))
      go_ret
      exact ⟨rfl, bal (Below.refl _ _) _⟩
  · have h1 : wB y.Tsn = false := by simpa using h1
    have e : pdF y = 3 := by simp [pdF, h1]
    rw [e]
    clear e
    go_enter Try.func161, Try.ntmps161
    go_wp2_with (first | (go_at_call 61; refine (isWord_any _ _).mono ?_; rintro e w' ⟨rfl, rfl⟩) | (go_at_call 155; refine (isStream_any _ _).mono ?_; rintro e w' ⟨rfl, rfl⟩) | (go_at_call 81; refine (isPair_any _ _).mono ?_; rintro e w' ⟨rfl, rfl⟩))
    go_ret
    exact ⟨rfl, bal (Below.refl _ _) _⟩
set_option maxHeartbeats 1000000 in
theorem flags_impl (t s q : Int) (f l u : Bool) (v : Value) (w : World) :
    Calls Try.prog 159 #[.agg #[.int .i64 t, .int .i64 s, .int .i64 q, .bool f, .bool l, .bool u, v]] w fun e w' => e = .returned (.int .i64 (bitN l 1 + bitN f 2 + bitN u 4)) ∧ w.alloc (.cells #[.int .i64 t, .int .i64 s, .int .i64 q, .bool f, .bool l, .bool u, v] 69) = w' := by
  cases f <;> cases l <;> cases u
  all_goals
    go_enter Try.func159, Try.ntmps159
    go_wp2
    go_ret
    exact ⟨rfl, rfl⟩
end Go.Proofs.Ythljdikcpdokdaa
