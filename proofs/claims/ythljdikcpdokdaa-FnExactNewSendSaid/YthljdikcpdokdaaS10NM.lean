/- Chapter 10: the model's l10New, NewSend. -/
import Derived.Test.YthljdikcpdokdaaS10N
namespace Go.Proofs.Ythljdikcpdokdaa
open Go.RowKit Go.Deep

set_option maxRecDepth 100000 in
set_option maxHeartbeats 2000000 in
theorem l10New_any (c : Int) (hc : IsW c) (w : World) : Calls Try.prog 116 #[.int .i64 c] w fun e w' => e = .returned (.agg #[.int .i64 c, .int .i64 (addV c 4294967295), .slice (some ⟨w.heap.size + 1, 0, none⟩) 10 10, .slice none 0 0]) ∧
    Blk w' (w.heap.size + 1) 2 Z10 ∧ Below w.heap.size w w' := by
  have HM := mk10
  have HAD := hidH (fun (u : World) => (l1Add_any c 4294967295 u hc.1 hc.2 (by omega) (by omega)).mono (fun e w' h => And.intro h.1 (show u = w' from h.2)))
  have e : (c + 4294967295) % 4294967296 = addV c 4294967295 := by unfold addV; rw [if_pos ⟨hc, by unfold IsW; omega⟩]
  rw [e] at HAD
  obtain ⟨a, ha⟩ : ∃ a, addV c 4294967295 = a := ⟨_, rfl⟩
  rw [ha] at HAD ⊢
  clear e ha
  go_enter Try.func116, Try.ntmps116
  go_wp2_with fail
  go_region_with ((go_at_call 69; refine (HAD.out _).mono ?_; rintro e w' ⟨rfl, rfl⟩))
  all_goals
    go_wp2
    have BK := Blk.new (w.alloc (.cells #[.int .i64 c, .int .i64 a, .slice (some ⟨w.heap.size + 1, 0, none⟩) 10 10, .slice none 0 0] 47)) 2 Z10
    rw [World.size_alloc] at BK
    exact bodyPost_ret (v := .agg #[.int .i64 c, .int .i64 a, .slice (some ⟨w.heap.size + 1, 0, none⟩) 10 10, .slice none 0 0]) (by simp [results, Try.results116, go_sem]) rfl ⟨rfl, BK.below (Below.refl _ _).drew, (bal (bal (Below.refl _ _) _) _).drew⟩
set_option maxRecDepth 100000 in
set_option maxHeartbeats 1000000 in
theorem ns_spec (c : Int) (u : World) (_ : WfV (.int c)) : Calls Try.prog 39 #[.int .i64 c] u (Res u (nsR c).vs) := by
  obtain ⟨b, hb⟩ : ∃ b, wB c = b := ⟨_, rfl⟩
  cases b
  · rw [nsR_no hb]
    go_enter Try.func39, Try.ntmps39
    go_wp2_with (first | (go_at_call 82; refine (word32_any _ _).mono ?_; rintro e w' ⟨rfl, rfl⟩))
    exact bodyPost_ret (v := .agg #[.int .i64 3, .int .i64 0, .int .i64 0, .slice none 0 0, .slice none 0 0, .slice none 0 0, .bool false]) (by simp [results, Try.results39, go_sem]) rfl ⟨_, rfl, sr_none _ (Nat.le_refl _), bal (Below.refl _ _) _⟩
  · rw [nsR_yes hb]
    have HL := hidH (fun (w : World) => l10New_any c (wB_is hb) w)
    obtain ⟨a, ha⟩ : ∃ a, addV c 4294967295 = a := ⟨_, rfl⟩
    rw [ha] at HL ⊢
    clear ha
    have KR := Blk.new u 51 #[.int .i64 0, .int .i64 0, .int .i64 0, .slice none 0 0, .slice none 0 0, .slice none 0 0, .bool false]
    have B1 := bal (Below.refl u.heap.size u) (.cells #[.int .i64 0, .int .i64 0, .int .i64 0, .slice none 0 0, .slice none 0 0, .slice none 0 0, .bool false] 51)
    obtain ⟨w1, hw1⟩ : ∃ W, u.alloc (.cells #[.int .i64 0, .int .i64 0, .int .i64 0, .slice none 0 0, .slice none 0 0, .slice none 0 0, .bool false] 51) = W := ⟨_, rfl⟩
    have s1 : w1.heap.size = u.heap.size + 1 := by rw [← hw1, World.size_alloc]
    rw [hw1] at KR B1
    have H1 := hidH hw1
    have HB := hidH B1
    have HR := hidH KR
    have HS := hidH s1
    clear hw1 KR B1 s1
    go_enter Try.func39, Try.ntmps39
    go_wp2_with (first | (go_at_call 82; refine (word32_any _ _).mono ?_; rintro e w' ⟨rfl, rfl⟩))
    rw [H1.out]
    refine (HL.out _).mono ?_
    rintro e w2 ⟨rfl, hk, b2⟩
    rw [HS.out] at hk ⊢
    have HK := hidH hk
    have HB2 := hidH (btr HB.out b2)
    have R2 := HR.out.below b2
    have q0 := R2.cell 0
    have z0 := R2.frozen 0
    have q1 := R2.cell 1
    have z1 := R2.frozen 1
    have q2 := R2.cell 2
    have z2 := R2.frozen 2
    have q3 := R2.cell 3
    have z3 := R2.frozen 3
    have q4 := R2.cell 4
    have z4 := R2.frozen 4
    have q5 := R2.cell 5
    have z5 := R2.frozen 5
    have q6 := R2.cell 6
    have z6 := R2.frozen 6
    simp only [List.getElem?_toArray, List.getElem?_cons_succ, List.getElem?_cons_zero] at q0 q1 q2 q3 q4 q5 q6
    have lq := R2.lt
    clear b2 R2 hk HL HR
    go_wp2
    have BW := hidH (show Win u.heap.size (u.heap.size + 1) w2 _ from ((((((set_win _ _ 0 (.int .i64 0)).trans (set_win _ _ 1 (.int .i64 c))).trans (set_win _ _ 2 (.int .i64 a))).trans (set_win _ _ 3 (.slice (some ⟨u.heap.size + 1 + 1, 0, none⟩) 10 10))).trans (set_win _ _ 4 (.slice none 0 0))).trans (set_win _ _ 5 (.slice none 0 0))).trans (set_win _ _ 6 (.bool false)))
    exact bodyPost_ret (v := .agg #[.int .i64 0, .int .i64 c, .int .i64 a, .slice (some ⟨u.heap.size + 1 + 1, 0, none⟩) 10 10, .slice none 0 0, .slice none 0 0, .bool false]) (by simp [results, Try.results39, go_sem, q0, q1, q2, q3, q4, q5, q6]) rfl ⟨_, rfl, ns_own c a (HK.out.win2 BW.out (.inr (by omega))) (HK.out.win2 BW.out (.inr (by omega))).lt (Nat.le_refl _) (by omega), HB2.out.trans (BW.out.below HB2.out.size)⟩
theorem nsR_len (c : Int) (_ : WfV (.int c)) : vcA (nsR c).vs ≤ 1000000000 := by
  unfold nsR
  split
  · exact (show (10 : Nat) ≤ 1000000000 by omega)
  · exact (show (0 : Nat) ≤ 1000000000 by omega)
end Go.Proofs.Ythljdikcpdokdaa
