/- What lies in a chunk, by the program's readers. -/
import Derived.Test.YtgghelpbobbkgaaDoorCt5
namespace Go.Proofs.YtgghelpbobbkgaaDoor
open Go.RowKit Go.Deep

theorem pd_get (x : ChunkM) : pdV (fun f => bitF f 2) (fun f => bitF f 1) (fun f => bitF f 4) x.Flags x.Body = if 8 ≤ x.Body.length then some (rdY x.Flags x.Body) else none := rfl
theorem ct_data_of {x : ChunkM} (hk : x.Kind = 0) : ctM x = match rdV x with | some y => .data y | none => .no := by unfold ctM; rw [if_pos hk]; rfl
theorem ct_sack_of {x : ChunkM} (hk : x.Kind = 3) : ctM x = match rsV x with | some y => .sack y | none => .no := by unfold ctM; rw [if_neg (by omega), if_pos hk]; rfl
theorem ct_init_of {x : ChunkM} (hk : x.Kind = 1 ∨ x.Kind = 2) : ctM x = match riV x with | some y => .init x.Kind y | none => .no := by unfold ctM; rw [if_neg (by omega), if_neg (by omega), if_pos hk]; rfl
theorem ct_ask_of {x : ChunkM} (hk : x.Kind = 193) : ctM x = match rqV x with | some y => .ask y | none => .no := by unfold ctM; rw [if_neg (by omega), if_neg (by omega), if_neg (by omega), if_pos hk]; rfl
theorem ct_ans_of {x : ChunkM} (hk : x.Kind = 128) : ctM x = match rwV x with | some y => .ans y | none => .no := by unfold ctM; rw [if_neg (by omega), if_neg (by omega), if_neg (by omega), if_neg (by omega), if_pos hk]; rfl
theorem ct_else {x : ChunkM} (h0 : x.Kind ≠ 0) (h3 : x.Kind ≠ 3) (h1 : x.Kind ≠ 1) (h2 : x.Kind ≠ 2) (h4 : x.Kind ≠ 193) (h5 : x.Kind ≠ 128) : ctM x = .no := by
  unfold ctM; rw [if_neg h0, if_neg h3, if_neg (by omega), if_neg h4, if_neg h5]
theorem ctD {x : ChunkM} (hk : x.Kind = 0) : (8 ≤ x.Body.length → ((isM x (pdR (rdY x.Flags x.Body)) = true → ctM x = .data (rdY x.Flags x.Body)) ∧ (isM x (pdR (rdY x.Flags x.Body)) = false → ctM x = .no))) ∧ (¬ 8 ≤ x.Body.length → ctM x = .no) := by
  obtain ⟨q1, q2, q3⟩ := rd_by (P := pdV (fun f => bitF f 2) (fun f => bitF f 1) (fun f => bitF f 4) x.Flags x.Body) (R := rdV x) (M := fun y => isM x (pdR y)) (fun y h => pd_ok (fun f h0 h1 => bitF_low f h0 h1) y h) (fun y => rdV_iff x y)
  rw [pd_get] at q1 q2 q3
  refine ⟨fun h => ⟨fun m => ?_, fun m => ?_⟩, fun h => ?_⟩
  · rw [ct_data_of hk, q1 _ (if_pos h) m]
  · rw [ct_data_of hk, q2 _ (if_pos h) m]
  · rw [ct_data_of hk, q3 (if_neg h)]
theorem ctS {x : ChunkM} (hk : x.Kind = 3) : (5 ≤ x.Body.length ∧ 5 + 4 * cntN x.Body 4 ≤ x.Body.length → ((isM x (ksR ⟨atW x.Body 0, gapsOf ((x.Body.drop 5).take (4 * cntN x.Body 4))⟩) = true → ctM x = .sack ⟨atW x.Body 0, gapsOf ((x.Body.drop 5).take (4 * cntN x.Body 4))⟩) ∧ (isM x (ksR ⟨atW x.Body 0, gapsOf ((x.Body.drop 5).take (4 * cntN x.Body 4))⟩) = false → ctM x = .no))) ∧ (¬ (5 ≤ x.Body.length ∧ 5 + 4 * cntN x.Body 4 ≤ x.Body.length) → ctM x = .no) := by
  obtain ⟨q1, q2, q3⟩ := rd_by (P := psV x.Body) (R := rsV x) (M := fun y => isM x (ksR y)) (fun y h => ps_ok y h) (fun y => rsV_iff x y)
  unfold psV at q1 q2 q3
  refine ⟨fun h => ⟨fun m => ?_, fun m => ?_⟩, fun h => ?_⟩
  · rw [ct_sack_of hk, q1 _ (if_pos h) m]
  · rw [ct_sack_of hk, q2 _ (if_pos h) m]
  · rw [ct_sack_of hk, q3 (if_neg h)]
theorem ctQ {x : ChunkM} (hk : x.Kind = 193) : (5 ≤ x.Body.length ∧ 5 + 2 * cntN x.Body 4 ≤ x.Body.length → ((isM x (qaR ⟨atW x.Body 0, opsOf ((x.Body.drop 5).take (2 * cntN x.Body 4))⟩) = true → ctM x = .ask ⟨atW x.Body 0, opsOf ((x.Body.drop 5).take (2 * cntN x.Body 4))⟩) ∧ (isM x (qaR ⟨atW x.Body 0, opsOf ((x.Body.drop 5).take (2 * cntN x.Body 4))⟩) = false → ctM x = .no))) ∧ (¬ (5 ≤ x.Body.length ∧ 5 + 2 * cntN x.Body 4 ≤ x.Body.length) → ctM x = .no) := by
  obtain ⟨q1, q2, q3⟩ := rd_by (P := pqV x.Body) (R := rqV x) (M := fun y => isM x (qaR y)) (fun y h => pq_ok y h) (fun y => rqV_iff x y)
  unfold pqV at q1 q2 q3
  refine ⟨fun h => ⟨fun m => ?_, fun m => ?_⟩, fun h => ?_⟩
  · rw [ct_ask_of hk, q1 _ (if_pos h) m]
  · rw [ct_ask_of hk, q2 _ (if_pos h) m]
  · rw [ct_ask_of hk, q3 (if_neg h)]
theorem ctW {x : ChunkM} (hk : x.Kind = 128) : (cntOk x.Body 4 → ((isM x (paR (rawV x.Body)) = true → ctM x = .ans (rawV x.Body)) ∧ (isM x (paR (rawV x.Body)) = false → ctM x = .no))) ∧ (¬ cntOk x.Body 4 → ctM x = .no) := by
  obtain ⟨q1, q2, q3⟩ := rd_by (P := pwV x.Body) (R := rwV x) (M := fun y => isM x (paR y)) (fun y h => pw_ok y h) (fun y => rwV_iff x y)
  unfold pwV at q1 q2 q3
  refine ⟨fun h => ⟨fun m => ?_, fun m => ?_⟩, fun h => ?_⟩
  · rw [ct_ans_of hk, q1 _ (if_pos h) m]
  · rw [ct_ans_of hk, q2 _ (if_pos h) m]
  · rw [ct_ans_of hk, q3 (if_neg h)]
theorem ctG {x : ChunkM} (hk : x.Kind = 1 ∨ x.Kind = 2) : (rinOk x.Body → ((isM x (piR (rinV x.Body) x.Kind) = true → ctM x = .init x.Kind (rinV x.Body)) ∧ (isM x (piR (rinV x.Body) x.Kind) = false → ctM x = .no))) ∧ (¬ rinOk x.Body → ctM x = .no) := by
  obtain ⟨q1, q2, q3⟩ := rd_by (P := piV x.Body) (R := riV x) (M := fun y => isM x (piR y x.Kind)) (fun y h => pi_ok y h) (fun y => riV_iff x y)
  unfold piV at q1 q2 q3
  refine ⟨fun h => ⟨fun m => ?_, fun m => ?_⟩, fun h => ?_⟩
  · rw [ct_init_of hk, q1 _ (if_pos h) m]
  · rw [ct_init_of hk, q2 _ (if_pos h) m]
  · rw [ct_init_of hk, q3 (if_neg h)]
/-- A chunk with no body holds nothing. -/
theorem ct_nil {x : ChunkM} (h : x.Body = []) : ctM x = .no := by
  by_cases h0 : x.Kind = 0
  · exact (ctD h0).2 (by rw [h]; simp)
  · by_cases h3 : x.Kind = 3
    · exact (ctS h3).2 (by rw [h]; simp)
    · by_cases h1 : x.Kind = 1 ∨ x.Kind = 2
      · exact (ctG h1).2 (by rw [h]; unfold rinOk; simp)
      · by_cases h4 : x.Kind = 193
        · exact (ctQ h4).2 (by rw [h]; simp)
        · by_cases h5 : x.Kind = 128
          · exact (ctW h5).2 (by rw [h]; unfold cntOk; simp)
          · exact ct_else h0 h3 (fun q => h1 (.inl q)) (fun q => h1 (.inr q)) h4 h5
/-- The value that stands for what lies in a chunk, its memory within a window. -/
def CtIs (w : World) (B C : Nat) : Ct → Value → Prop
  | .no, v => v = .nilIface
  | .data y, v => ∃ vs, v = .iface 25 (.agg vs.toArray) ∧ OwN B C w y.vs vs
  | .sack y, v => ∃ vs, v = .iface 34 (.agg vs.toArray) ∧ OwN B C w y.vs vs
  | .init k y, v => ∃ vs, v = .iface 102 (.agg vs.toArray) ∧ OwN B C w (y.vs ++ [.int k]) vs
  | .ask y, v => ∃ vs, v = .iface 59 (.agg vs.toArray) ∧ OwN B C w y.vs vs
  | .ans y, v => ∃ vs, v = .iface 63 (.agg vs.toArray) ∧ OwN B C w y.vs vs
end Go.Proofs.YtgghelpbobbkgaaDoor
