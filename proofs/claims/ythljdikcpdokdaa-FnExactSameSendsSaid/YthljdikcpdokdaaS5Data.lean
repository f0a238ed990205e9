/- The model's chapter 5: data: l5DataFault. -/
import Derived.Test.YthljdikcpdokdaaM5Data
namespace Go.Proofs.Ythljdikcpdokdaa
open Go.RowKit Go.Deep

set_option maxRecDepth 100000 in
set_option maxHeartbeats 2000000 in
theorem pdF_any (g o : Nat) (y : DataM) (w : World) (h : RdL w y.vs g o) :
    Calls Try.prog 85 #[.pointer (some ⟨g, o, none⟩)] w fun e w' => e = .returned (.int .i64 (pdF y)) ∧ Below w.heap.size w w' := by
  obtain ⟨A, c, q0, q1, q2, q3, q4, q5, q6, hA⟩ := mem_Data h
  have hm := (hA.bs_out).choose_spec.choose_spec.2.1.len
  clear h hA
  by_cases h1 : wB y.Tsn = true
  · by_cases h2 : inB y.Stream 0 9 = true
    · by_cases h3 : inB y.Seq 0 65535 = true
      · by_cases h4 : y.Piece.length < 1
        · have e : pdF y = 2 := by simp only [pdF, h1, h2, h3, Bool.and_self, if_true]; rw [if_neg (by omega)]
          have h4' : (y.Piece.length : Int) < 1 := by omega
          rw [e]
          clear e h4
          go_enter Try.func85, Try.ntmps85
          go_wp2_with (first | (go_at_call 82; refine (word32_any _ _).mono ?_; rintro e w' ⟨rfl, rfl⟩) | (go_at_call 84; refine (in_any _ _ _ _).mono ?_; rintro e w' ⟨rfl, rfl⟩))
          go_ret
          exact ⟨rfl, Below.refl _ _⟩
        · by_cases h5 : 100 < y.Piece.length
          · have e : pdF y = 2 := by simp only [pdF, h1, h2, h3, Bool.and_self, if_true]; rw [if_neg (by omega)]
            have h4' : ¬ (y.Piece.length : Int) < 1 := by omega
            have h5' : (100 : Int) < (y.Piece.length : Int) := by omega
            rw [e]
            clear e h4 h5
            go_enter Try.func85, Try.ntmps85
            go_wp2_with (first | (go_at_call 82; refine (word32_any _ _).mono ?_; rintro e w' ⟨rfl, rfl⟩) | (go_at_call 84; refine (in_any _ _ _ _).mono ?_; rintro e w' ⟨rfl, rfl⟩))
            go_ret
            exact ⟨rfl, Below.refl _ _⟩
          · have h4' : ¬ (y.Piece.length : Int) < 1 := by omega
            have h5' : ¬ (100 : Int) < (y.Piece.length : Int) := by omega
            have e0 : pdF y = if y.Unordered = true ∧ y.Seq ≠ 0 then 1 else 0 := by simp only [pdF, h1, h2, h3, Bool.and_self, if_true]; rw [if_pos (by omega)]
            rw [e0]
            clear e0 h4 h5
            by_cases h6 : y.Unordered = true
            · by_cases h7 : y.Seq = 0
              · rw [if_neg (fun h => h.2 h7)]
                have h8 : (y.Seq != 0) = false := by rw [h7]; rfl
                go_enter Try.func85, Try.ntmps85
                go_wp2_with (first | (go_at_call 82; refine (word32_any _ _).mono ?_; rintro e w' ⟨rfl, rfl⟩) | (go_at_call 84; refine (in_any _ _ _ _).mono ?_; rintro e w' ⟨rfl, rfl⟩))
                go_ret
                exact ⟨rfl, Below.refl _ _⟩
              · rw [if_pos ⟨h6, h7⟩]
                have h8 : (y.Seq != 0) = true := by rw [bne_iff_ne]; exact h7
                go_enter Try.func85, Try.ntmps85
                go_wp2_with (first | (go_at_call 82; refine (word32_any _ _).mono ?_; rintro e w' ⟨rfl, rfl⟩) | (go_at_call 84; refine (in_any _ _ _ _).mono ?_; rintro e w' ⟨rfl, rfl⟩))
                go_ret
                exact ⟨rfl, Below.refl _ _⟩
            · have h6 : y.Unordered = false := by simpa using h6
              rw [if_neg (fun h => by rw [h6] at h; exact Bool.noConfusion h.1)]
              go_enter Try.func85, Try.ntmps85
              go_wp2_with (first | (go_at_call 82; refine (word32_any _ _).mono ?_; rintro e w' ⟨rfl, rfl⟩) | (go_at_call 84; refine (in_any _ _ _ _).mono ?_; rintro e w' ⟨rfl, rfl⟩))
              go_ret
              exact ⟨rfl, Below.refl _ _⟩
      · have h3 : inB y.Seq 0 65535 = false := by simpa using h3
        have e : pdF y = 3 := by simp [pdF, h3]
        rw [e]
        clear e
        go_enter Try.func85, Try.ntmps85
        go_wp2_with (first | (go_at_call 82; refine (word32_any _ _).mono ?_; rintro e w' ⟨rfl, rfl⟩) | (go_at_call 84; refine (in_any _ _ _ _).mono ?_; rintro e w' ⟨rfl, rfl⟩))
        go_ret
        exact ⟨rfl, Below.refl _ _⟩
    · have h2 : inB y.Stream 0 9 = false := by simpa using h2
      have e : pdF y = 3 := by simp [pdF, h2]
      rw [e]
      clear e
      go_enter Try.func85, Try.ntmps85
      go_wp2_with (first | (go_at_call 82; refine (word32_any _ _).mono ?_; rintro e w' ⟨rfl, rfl⟩) | (go_at_call 84; refine (in_any _ _ _ _).mono ?_; rintro e w' ⟨rfl, rfl⟩))
      go_ret
      exact ⟨rfl, Below.refl _ _⟩
  · have h1 : wB y.Tsn = false := by simpa using h1
    have e : pdF y = 3 := by simp [pdF, h1]
    rw [e]
    clear e
    go_enter Try.func85, Try.ntmps85
    go_wp2_with (first | (go_at_call 82; refine (word32_any _ _).mono ?_; rintro e w' ⟨rfl, rfl⟩) | (go_at_call 84; refine (in_any _ _ _ _).mono ?_; rintro e w' ⟨rfl, rfl⟩))
    go_ret
    exact ⟨rfl, Below.refl _ _⟩
end Go.Proofs.Ythljdikcpdokdaa
