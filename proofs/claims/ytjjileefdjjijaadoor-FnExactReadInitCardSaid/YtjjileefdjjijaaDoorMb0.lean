import Derived.Test.YtjjileefdjjijaaDoorRgI

/- The program's byteReader: content. -/
namespace Go.Proofs.YtjjileefdjjijaaDoor
open Go.RowKit Go.Deep

def CtRes (r : Nat) (T : TypeId) (xs : List V) (w : World) (e : Ending) (w' : World) : Prop := ∃ vs : List Value, e = .returned (.iface T (.agg vs.toArray)) ∧ OwN w.heap.size w'.heap.size w' xs vs ∧ Win r (r + 1) w w'
def CtBad (r : Nat) (ty : TypeId) (pv : Value) (w : World) (e : Ending) (w' : World) : Prop := e = PanE (.iface ty pv) ∧ Win r (r + 1) w w'
set_option maxRecDepth 100000 in
set_option maxHeartbeats 2000000 in
theorem ct_data_ok (r : Nat) (f : Int) (l : List Int) (w : World) (ty : TypeId) (pv : Value) (h : RE w r ty pv l) (hm : l.length ≤ 4000000) (g : 8 ≤ l.length) :
    Calls Tryd.prog 113 #[.pointer (some ⟨r, 0, none⟩), .int .i64 0, .int .i64 f] w (CtRes r 25 (rdY f l).vs w) := by
  have HC := hidH (data_ok r f l w ty pv h g (by omega))
  clear h g hm
  go_enter Tryd.func113, Tryd.ntmps113
  go_wp2_with fail
  refine HC.out.mono ?_
  rintro e w2 ⟨vs, rfl, hO, hw⟩
  have HR := hidH (And.intro hO hw)
  clear HC hO hw
  go_wp2
  go_ret
  exact ⟨vs, rfl, HR.out⟩
set_option maxRecDepth 100000 in
set_option maxHeartbeats 2000000 in
theorem ct_data_bad (r : Nat) (f : Int) (l : List Int) (w : World) (ty : TypeId) (pv : Value) (h : RE w r ty pv l) (hm : l.length ≤ 4000000) (g : ¬ (8 ≤ l.length)) :
    Calls Tryd.prog 113 #[.pointer (some ⟨r, 0, none⟩), .int .i64 0, .int .i64 f] w (CtBad r ty pv w) := by
  have HC := hidH (data_bad r f l w ty pv h (by omega))
  clear h g hm
  unfold CtBad PanE
  unfold PanE at HC
  go_enter Tryd.func113, Tryd.ntmps113
  go_wp2_with fail
  refine HC.out.mono ?_
  rintro e w2 ⟨rfl, hw⟩
  have HR := hidH hw
  clear HC hw
  go_wp2
  exact ⟨rfl, rfl, HR.out⟩
set_option maxRecDepth 100000 in
set_option maxHeartbeats 2000000 in
theorem ct_sack_ok (r : Nat) (f : Int) (l : List Int) (w : World) (ty : TypeId) (pv : Value) (h : RE w r ty pv l) (hm : l.length ≤ 4000000) (g : 5 ≤ l.length ∧ 5 + 4 * cntN l 4 ≤ l.length) :
    Calls Tryd.prog 113 #[.pointer (some ⟨r, 0, none⟩), .int .i64 3, .int .i64 f] w (CtRes r 34 (SackM.vs ⟨atW l 0, gapsOf ((l.drop 5).take (4 * cntN l 4))⟩) w) := by
  have HC := hidH (sack_ok r l w ty pv h g.1 g.2 hm)
  clear h g hm
  go_enter Tryd.func113, Tryd.ntmps113
  go_wp2_with fail
  refine HC.out.mono ?_
  rintro e w2 ⟨vs, rfl, hO, hw⟩
  have HR := hidH (And.intro hO hw)
  clear HC hO hw
  go_wp2
  go_ret
  exact ⟨vs, rfl, HR.out⟩
set_option maxRecDepth 100000 in
set_option maxHeartbeats 2000000 in
theorem ct_sack_bad (r : Nat) (f : Int) (l : List Int) (w : World) (ty : TypeId) (pv : Value) (h : RE w r ty pv l) (hm : l.length ≤ 4000000) (g : ¬ (5 ≤ l.length ∧ 5 + 4 * cntN l 4 ≤ l.length)) :
    Calls Tryd.prog 113 #[.pointer (some ⟨r, 0, none⟩), .int .i64 3, .int .i64 f] w (CtBad r ty pv w) := by
  have HC := hidH (sack_bad r l w ty pv h g hm)
  clear h g hm
  unfold CtBad PanE
  unfold PanE at HC
  go_enter Tryd.func113, Tryd.ntmps113
  go_wp2_with fail
  refine HC.out.mono ?_
  rintro e w2 ⟨rfl, hw⟩
  have HR := hidH hw
  clear HC hw
  go_wp2
  exact ⟨rfl, rfl, HR.out⟩
set_option maxRecDepth 100000 in
set_option maxHeartbeats 2000000 in
theorem ct_asconf_ok (r : Nat) (f : Int) (l : List Int) (w : World) (ty : TypeId) (pv : Value) (h : RE w r ty pv l) (hm : l.length ≤ 4000000) (g : 5 ≤ l.length ∧ 5 + 2 * cntN l 4 ≤ l.length) :
    Calls Tryd.prog 113 #[.pointer (some ⟨r, 0, none⟩), .int .i64 193, .int .i64 f] w (CtRes r 59 (AsconfM.vs ⟨atW l 0, opsOf ((l.drop 5).take (2 * cntN l 4))⟩) w) := by
  have HC := hidH (asconf_ok r l w ty pv h g.1 g.2 hm)
  clear h g hm
  go_enter Tryd.func113, Tryd.ntmps113
  go_wp2_with fail
  refine HC.out.mono ?_
  rintro e w2 ⟨vs, rfl, hO, hw⟩
  have HR := hidH (And.intro hO hw)
  clear HC hO hw
  go_wp2
  go_ret
  exact ⟨vs, rfl, HR.out⟩
set_option maxRecDepth 100000 in
set_option maxHeartbeats 2000000 in
theorem ct_asconf_bad (r : Nat) (f : Int) (l : List Int) (w : World) (ty : TypeId) (pv : Value) (h : RE w r ty pv l) (hm : l.length ≤ 4000000) (g : ¬ (5 ≤ l.length ∧ 5 + 2 * cntN l 4 ≤ l.length)) :
    Calls Tryd.prog 113 #[.pointer (some ⟨r, 0, none⟩), .int .i64 193, .int .i64 f] w (CtBad r ty pv w) := by
  have HC := hidH (asconf_bad r l w ty pv h g hm)
  clear h g hm
  unfold CtBad PanE
  unfold PanE at HC
  go_enter Tryd.func113, Tryd.ntmps113
  go_wp2_with fail
  refine HC.out.mono ?_
  rintro e w2 ⟨rfl, hw⟩
  have HR := hidH hw
  clear HC hw
  go_wp2
  exact ⟨rfl, rfl, HR.out⟩
set_option maxRecDepth 100000 in
set_option maxHeartbeats 2000000 in
theorem ct_answer_ok (r : Nat) (f : Int) (l : List Int) (w : World) (ty : TypeId) (pv : Value) (h : RE w r ty pv l) (hm : l.length ≤ 4000000) (g : cntOk l 4) :
    Calls Tryd.prog 113 #[.pointer (some ⟨r, 0, none⟩), .int .i64 128, .int .i64 f] w (CtRes r 63 (rawV l).vs w) := by
  have HC := hidH (answer_ok r l w ty pv h g hm)
  clear h g hm
  go_enter Tryd.func113, Tryd.ntmps113
  go_wp2_with fail
  refine HC.out.mono ?_
  rintro e w2 ⟨vs, rfl, hO, hw⟩
  have HR := hidH (And.intro hO hw)
  clear HC hO hw
  go_wp2
  go_ret
  exact ⟨vs, rfl, HR.out⟩
set_option maxRecDepth 100000 in
set_option maxHeartbeats 2000000 in
theorem ct_answer_bad (r : Nat) (f : Int) (l : List Int) (w : World) (ty : TypeId) (pv : Value) (h : RE w r ty pv l) (hm : l.length ≤ 4000000) (g : ¬ (cntOk l 4)) :
    Calls Tryd.prog 113 #[.pointer (some ⟨r, 0, none⟩), .int .i64 128, .int .i64 f] w (CtBad r ty pv w) := by
  have HC := hidH (answer_bad r l w ty pv h g hm)
  clear h g hm
  unfold CtBad PanE
  unfold PanE at HC
  go_enter Tryd.func113, Tryd.ntmps113
  go_wp2_with fail
  refine HC.out.mono ?_
  rintro e w2 ⟨rfl, hw⟩
  have HR := hidH hw
  clear HC hw
  go_wp2
  exact ⟨rfl, rfl, HR.out⟩
theorem rin_parts {l : List Int} : rinOk l ↔ 4 ≤ l.length ∧ 4 ≤ (l.drop 4).length ∧ 16 ≤ ((l.drop 4).drop 4).length ∧ cntOk (((l.drop 4).drop 4).drop 16) 0 ∧ 1 ≤ ((((l.drop 4).drop 4).drop 16).drop (1 + cntN (((l.drop 4).drop 4).drop 16) 0)).length ∧ cntN ((((l.drop 4).drop 4).drop 16).drop (1 + cntN (((l.drop 4).drop 4).drop 16) 0)) 0 ≤ (((((l.drop 4).drop 4).drop 16).drop (1 + cntN (((l.drop 4).drop 4).drop 16) 0)).drop 1).length := by
  have e3 : ((l.drop 4).drop 4).drop 16 = l.drop 24 := by rw [List.drop_drop, List.drop_drop]
  have e4 : (l.drop 24).drop (1 + cntN (l.drop 24) 0) = l.drop (25 + cntN l 24) := by rw [← cntN_drop, List.drop_drop]; congr 1; omega
  rw [e3, e4, ← cnt_drop, ← cntN_drop]
  unfold rinOk
  simp only [List.length_drop]
  unfold cntOk
  omega
theorem rin_val {l : List Int} : [V.int (atW l 0), .int (atW (l.drop 4) 0), .bs (((l.drop 4).drop 4).take 16), .is (cntL (((l.drop 4).drop 4).drop 16) 0), .bs ((((((l.drop 4).drop 4).drop 16).drop (1 + cntN (((l.drop 4).drop 4).drop 16) 0)).drop 1).take (cntN ((((l.drop 4).drop 4).drop 16).drop (1 + cntN (((l.drop 4).drop 4).drop 16) 0)) 0))] = (rinV l).vs := by
  have e3 : ((l.drop 4).drop 4).drop 16 = l.drop 24 := by rw [List.drop_drop, List.drop_drop]
  have e4 : (l.drop 24).drop (1 + cntN (l.drop 24) 0) = l.drop (25 + cntN l 24) := by rw [← cntN_drop, List.drop_drop]; congr 1; omega
  rw [e3, e4, ← cntN_drop, ← cntL_drop, show (l.drop 4).drop 4 = l.drop 8 by rw [List.drop_drop], ← atW_drop]
  unfold rinV
  simp only [InitM.vs]
  rw [cntL, cntL, List.drop_drop]
theorem greeting_ok (r : Nat) (k : Int) (l : List Int) (w : World) (ty : TypeId) (pv : Value) (h : RE w r ty pv l) (g : rinOk l) (hm : l.length ≤ 4000000) :
    Calls Tryd.prog 129 #[.pointer (some ⟨r, 0, none⟩), .int .i64 k] w (StRes r ((rinV l).vs ++ [.int k]) w) := by
  obtain ⟨g0, g1, g2, g3, g4, g5⟩ := rin_parts.1 g
  have := greet_ok r k l _ _ _ _ _ w ty pv h rfl rfl rfl rfl rfl hm g0 g1 g2 g3 g4 g5
  rw [← rin_val]
  exact this
theorem greeting_bad (r : Nat) (k : Int) (l : List Int) (w : World) (ty : TypeId) (pv : Value) (h : RE w r ty pv l) (g : ¬ rinOk l) (hm : l.length ≤ 4000000) :
    Calls Tryd.prog 129 #[.pointer (some ⟨r, 0, none⟩), .int .i64 k] w fun e w' => e = PanE (.iface ty pv) ∧ Win r (r + 1) w w' := by
  by_cases g0 : 4 ≤ l.length
  · by_cases g1 : 4 ≤ (l.drop 4).length
    · by_cases g2 : 16 ≤ ((l.drop 4).drop 4).length
      · by_cases g3 : cntOk (((l.drop 4).drop 4).drop 16) 0
        · by_cases g4 : 1 ≤ ((((l.drop 4).drop 4).drop 16).drop (1 + cntN (((l.drop 4).drop 4).drop 16) 0)).length
          · by_cases g5 : cntN ((((l.drop 4).drop 4).drop 16).drop (1 + cntN (((l.drop 4).drop 4).drop 16) 0)) 0 ≤ (((((l.drop 4).drop 4).drop 16).drop (1 + cntN (((l.drop 4).drop 4).drop 16) 0)).drop 1).length
            · exact absurd (rin_parts.2 ⟨g0, g1, g2, g3, g4, g5⟩) g
            · exact greet_bad5 r k l _ _ _ _ _ w ty pv h rfl rfl rfl rfl rfl hm g0 g1 g2 g3 g4 g5
          · exact greet_bad4 r k l _ _ _ _ _ w ty pv h rfl rfl rfl rfl rfl hm g0 g1 g2 g3 g4
        · exact greet_bad3 r k l _ _ _ _ _ w ty pv h rfl rfl rfl rfl rfl hm g0 g1 g2 g3
      · exact greet_bad2 r k l _ _ _ _ _ w ty pv h rfl rfl rfl rfl rfl hm g0 g1 g2
    · exact greet_bad1 r k l _ _ _ _ _ w ty pv h rfl rfl rfl rfl rfl hm g0 g1
  · exact greet_bad0 r k l _ _ _ _ _ w ty pv h rfl rfl rfl rfl rfl hm g0
set_option maxRecDepth 100000 in
set_option maxHeartbeats 2000000 in
theorem ct_greet1_ok (r : Nat) (f : Int) (l : List Int) (w : World) (ty : TypeId) (pv : Value) (h : RE w r ty pv l) (hm : l.length ≤ 4000000) (g : rinOk l) :
    Calls Tryd.prog 113 #[.pointer (some ⟨r, 0, none⟩), .int .i64 1, .int .i64 f] w (CtRes r 100 ((rinV l).vs ++ [.int 1]) w) := by
  have HC := hidH (greeting_ok r 1 l w ty pv h g hm)
  clear h g hm
  go_enter Tryd.func113, Tryd.ntmps113
  go_wp2_with fail
  refine HC.out.mono ?_
  rintro e w2 ⟨vs, rfl, hO, hw⟩
  have HR := hidH (And.intro hO hw)
  clear HC hO hw
  go_wp2
  go_ret
  exact ⟨vs, rfl, HR.out⟩
set_option maxRecDepth 100000 in
set_option maxHeartbeats 2000000 in
theorem ct_greet1_bad (r : Nat) (f : Int) (l : List Int) (w : World) (ty : TypeId) (pv : Value) (h : RE w r ty pv l) (hm : l.length ≤ 4000000) (g : ¬ (rinOk l)) :
    Calls Tryd.prog 113 #[.pointer (some ⟨r, 0, none⟩), .int .i64 1, .int .i64 f] w (CtBad r ty pv w) := by
  have HC := hidH (greeting_bad r 1 l w ty pv h g hm)
  clear h g hm
  unfold CtBad PanE
  unfold PanE at HC
  go_enter Tryd.func113, Tryd.ntmps113
  go_wp2_with fail
  refine HC.out.mono ?_
  rintro e w2 ⟨rfl, hw⟩
  have HR := hidH hw
  clear HC hw
  go_wp2
  exact ⟨rfl, rfl, HR.out⟩
set_option maxRecDepth 100000 in
set_option maxHeartbeats 2000000 in
theorem ct_greet2_ok (r : Nat) (f : Int) (l : List Int) (w : World) (ty : TypeId) (pv : Value) (h : RE w r ty pv l) (hm : l.length ≤ 4000000) (g : rinOk l) :
    Calls Tryd.prog 113 #[.pointer (some ⟨r, 0, none⟩), .int .i64 2, .int .i64 f] w (CtRes r 100 ((rinV l).vs ++ [.int 2]) w) := by
  have HC := hidH (greeting_ok r 2 l w ty pv h g hm)
  clear h g hm
  go_enter Tryd.func113, Tryd.ntmps113
  go_wp2_with fail
  refine HC.out.mono ?_
  rintro e w2 ⟨vs, rfl, hO, hw⟩
  have HR := hidH (And.intro hO hw)
  clear HC hO hw
  go_wp2
  go_ret
  exact ⟨vs, rfl, HR.out⟩
set_option maxRecDepth 100000 in
set_option maxHeartbeats 2000000 in
theorem ct_greet2_bad (r : Nat) (f : Int) (l : List Int) (w : World) (ty : TypeId) (pv : Value) (h : RE w r ty pv l) (hm : l.length ≤ 4000000) (g : ¬ (rinOk l)) :
    Calls Tryd.prog 113 #[.pointer (some ⟨r, 0, none⟩), .int .i64 2, .int .i64 f] w (CtBad r ty pv w) := by
  have HC := hidH (greeting_bad r 2 l w ty pv h g hm)
  clear h g hm
  unfold CtBad PanE
  unfold PanE at HC
  go_enter Tryd.func113, Tryd.ntmps113
  go_wp2_with fail
  refine HC.out.mono ?_
  rintro e w2 ⟨rfl, hw⟩
  have HR := hidH hw
  clear HC hw
  go_wp2
  exact ⟨rfl, rfl, HR.out⟩
set_option maxRecDepth 100000 in
set_option maxHeartbeats 2000000 in
theorem ct_none (r : Nat) (k f : Int) (w : World) (ty : TypeId) (pv : Value) (hE : w.cell? ⟨0, 0, none⟩ = some (.iface ty pv)) (h0 : k ≠ 0) (h3 : k ≠ 3) (h1 : k ≠ 1) (h2 : k ≠ 2) (h193 : k ≠ 193) (h128 : k ≠ 128) :
    Calls Tryd.prog 113 #[.pointer (some ⟨r, 0, none⟩), .int .i64 k, .int .i64 f] w (CtBad r ty pv w) := by
  have e0 : (k == 0) = false := by rw [beq_eq_false_iff_ne]; exact h0
  have e3 : (k == 3) = false := by rw [beq_eq_false_iff_ne]; exact h3
  have e1 : (k == 1) = false := by rw [beq_eq_false_iff_ne]; exact h1
  have e2 : (k == 2) = false := by rw [beq_eq_false_iff_ne]; exact h2
  have e4 : (k == 193) = false := by rw [beq_eq_false_iff_ne]; exact h193
  have e5 : (k == 128) = false := by rw [beq_eq_false_iff_ne]; exact h128
  have hpos : 0 < w.heap.size := World.block_lt_of_cell? _ _ hE
  unfold CtBad PanE
  clear h0 h1 h2 h3 h193 h128
  go_enter Tryd.func113, Tryd.ntmps113
  go_wp2
  exact ⟨rfl, rfl, Win.refl _ _ _⟩
end Go.Proofs.YtjjileefdjjijaaDoor

/- What lies in a chunk, by the program's readers. -/
namespace Go.Proofs.YtjjileefdjjijaaDoor
open Go.RowKit Go.Deep

theorem pd_get (x : ChunkM) : pdV (fun f => bitF f 2) (fun f => bitF f 1) (fun f => bitF f 4) x.Flags x.Body = if 8 ≤ x.Body.length then some (rdY x.Flags x.Body) else none := rfl
theorem ct_data_of {x : ChunkM} (hk : x.Kind = 0) : ctM x = match rdV x with | some y => .data y | none => .no := by unfold ctM; rw [if_pos hk]; rfl
theorem ct_sack_of {x : ChunkM} (hk : x.Kind = 3) : ctM x = match rsV x with | some y => .sack y | none => .no := by unfold ctM; rw [if_neg (by omega), if_pos hk]; rfl
theorem ct_init_of {x : ChunkM} (hk : x.Kind = 1 ∨ x.Kind = 2) : ctM x = match riV x with | some y => .init x.Kind y | none => .no := by unfold ctM; rw [if_neg (by omega), if_neg (by omega), if_pos hk]; rfl
theorem ct_ask_of {x : ChunkM} (hk : x.Kind = 193) : ctM x = match rqV x with | some y => .ask y | none => .no := by unfold ctM; rw [if_neg (by omega), if_neg (by omega), if_neg (by omega), if_pos hk]; rfl
theorem ct_ans_of {x : ChunkM} (hk : x.Kind = 128) : ctM x = match rwV x with | some y => .ans y | none => .no := by unfold ctM; rw [if_neg (by omega), if_neg (by omega), if_neg (by omega), if_neg (by omega), if_pos hk]; rfl
theorem ct_else {x : ChunkM} (h0 : x.Kind ≠ 0) (h3 : x.Kind ≠ 3) (h1 : x.Kind ≠ 1) (h2 : x.Kind ≠ 2) (h4 : x.Kind ≠ 193) (h5 : x.Kind ≠ 128) : ctM x = .no := by
  unfold ctM; rw [if_neg h0, if_neg h3, if_neg (by omega), if_neg h4, if_neg h5]
theorem ctD {x : ChunkM} (hk : x.Kind = 0) : (8 ≤ x.Body.length → ((isM x (pdR (rdY x.Flags x.Body)) = true → ctM x = .data (rdY x.Flags x.Body)) ∧ (isM x (pdR (rdY x.Flags x.Body)) = false → ctM x = .no))) ∧ (¬ 8 ≤ x.Body.length → ctM x = .no) := by
  obtain ⟨q1, q2, q3⟩ := rd_by (P := pdV (fun f => bitF f 2) (fun f => bitF f 1) (fun f => bitF f 4) x.Flags x.Body) (R := rdV x) (M := fun y => isM x (pdR y)) (fun y h => pd_ok (fun f h0 h1 => bitF_low f h0 h1) y h) (fun y => rdV_iff x y)
  rw [pd_get] at q1 q2 q3
  refine ⟨fun h => ⟨fun m => ?_, fun m => ?_⟩, fun h => ?_⟩
  · rw [ct_data_of hk, q1 _ (if_pos h) m]
  · rw [ct_data_of hk, q2 _ (if_pos h) m]
  · rw [ct_data_of hk, q3 (if_neg h)]
theorem ctS {x : ChunkM} (hk : x.Kind = 3) : (5 ≤ x.Body.length ∧ 5 + 4 * cntN x.Body 4 ≤ x.Body.length → ((isM x (ksR ⟨atW x.Body 0, gapsOf ((x.Body.drop 5).take (4 * cntN x.Body 4))⟩) = true → ctM x = .sack ⟨atW x.Body 0, gapsOf ((x.Body.drop 5).take (4 * cntN x.Body 4))⟩) ∧ (isM x (ksR ⟨atW x.Body 0, gapsOf ((x.Body.drop 5).take (4 * cntN x.Body 4))⟩) = false → ctM x = .no))) ∧ (¬ (5 ≤ x.Body.length ∧ 5 + 4 * cntN x.Body 4 ≤ x.Body.length) → ctM x = .no) := by
  obtain ⟨q1, q2, q3⟩ := rd_by (P := psV x.Body) (R := rsV x) (M := fun y => isM x (ksR y)) (fun y h => ps_ok y h) (fun y => rsV_iff x y)
  unfold psV at q1 q2 q3
  refine ⟨fun h => ⟨fun m => ?_, fun m => ?_⟩, fun h => ?_⟩
  · rw [ct_sack_of hk, q1 _ (if_pos h) m]
  · rw [ct_sack_of hk, q2 _ (if_pos h) m]
  · rw [ct_sack_of hk, q3 (if_neg h)]
theorem ctQ {x : ChunkM} (hk : x.Kind = 193) : (5 ≤ x.Body.length ∧ 5 + 2 * cntN x.Body 4 ≤ x.Body.length → ((isM x (qaR ⟨atW x.Body 0, opsOf ((x.Body.drop 5).take (2 * cntN x.Body 4))⟩) = true → ctM x = .ask ⟨atW x.Body 0, opsOf ((x.Body.drop 5).take (2 * cntN x.Body 4))⟩) ∧ (isM x (qaR ⟨atW x.Body 0, opsOf ((x.Body.drop 5).take (2 * cntN x.Body 4))⟩) = false → ctM x = .no))) ∧ (¬ (5 ≤ x.Body.length ∧ 5 + 2 * cntN x.Body 4 ≤ x.Body.length) → ctM x = .no) := by
  obtain ⟨q1, q2, q3⟩ := rd_by (P := pqV x.Body) (R := rqV x) (M := fun y => isM x (qaR y)) (fun y h => pq_ok y h) (fun y => rqV_iff x y)
  unfold pqV at q1 q2 q3
  refine ⟨fun h => ⟨fun m => ?_, fun m => ?_⟩, fun h => ?_⟩
  · rw [ct_ask_of hk, q1 _ (if_pos h) m]
  · rw [ct_ask_of hk, q2 _ (if_pos h) m]
  · rw [ct_ask_of hk, q3 (if_neg h)]
theorem ctW {x : ChunkM} (hk : x.Kind = 128) : (cntOk x.Body 4 → ((isM x (paR (rawV x.Body)) = true → ctM x = .ans (rawV x.Body)) ∧ (isM x (paR (rawV x.Body)) = false → ctM x = .no))) ∧ (¬ cntOk x.Body 4 → ctM x = .no) := by
  obtain ⟨q1, q2, q3⟩ := rd_by (P := pwV x.Body) (R := rwV x) (M := fun y => isM x (paR y)) (fun y h => pw_ok y h) (fun y => rwV_iff x y)
  unfold pwV at q1 q2 q3
  refine ⟨fun h => ⟨fun m => ?_, fun m => ?_⟩, fun h => ?_⟩
  · rw [ct_ans_of hk, q1 _ (if_pos h) m]
  · rw [ct_ans_of hk, q2 _ (if_pos h) m]
  · rw [ct_ans_of hk, q3 (if_neg h)]
theorem ctG {x : ChunkM} (hk : x.Kind = 1 ∨ x.Kind = 2) : (rinOk x.Body → ((isM x (piR (rinV x.Body) x.Kind) = true → ctM x = .init x.Kind (rinV x.Body)) ∧ (isM x (piR (rinV x.Body) x.Kind) = false → ctM x = .no))) ∧ (¬ rinOk x.Body → ctM x = .no) := by
  obtain ⟨q1, q2, q3⟩ := rd_by (P := piV x.Body) (R := riV x) (M := fun y => isM x (piR y x.Kind)) (fun y h => pi_ok y h) (fun y => riV_iff x y)
  unfold piV at q1 q2 q3
  refine ⟨fun h => ⟨fun m => ?_, fun m => ?_⟩, fun h => ?_⟩
  · rw [ct_init_of hk, q1 _ (if_pos h) m]
  · rw [ct_init_of hk, q2 _ (if_pos h) m]
  · rw [ct_init_of hk, q3 (if_neg h)]
/-- A chunk with no body holds nothing. -/
theorem ct_nil {x : ChunkM} (h : x.Body = []) : ctM x = .no := by
  by_cases h0 : x.Kind = 0
  · exact (ctD h0).2 (by rw [h]; simp)
  · by_cases h3 : x.Kind = 3
    · exact (ctS h3).2 (by rw [h]; simp)
    · by_cases h1 : x.Kind = 1 ∨ x.Kind = 2
      · exact (ctG h1).2 (by rw [h]; unfold rinOk; simp)
      · by_cases h4 : x.Kind = 193
        · exact (ctQ h4).2 (by rw [h]; simp)
        · by_cases h5 : x.Kind = 128
          · exact (ctW h5).2 (by rw [h]; unfold cntOk; simp)
          · exact ct_else h0 h3 (fun q => h1 (.inl q)) (fun q => h1 (.inr q)) h4 h5
/-- The value that stands for what lies in a chunk, its memory within a window. -/
def CtIs (w : World) (B C : Nat) : Ct → Value → Prop
  | .no, v => v = .nilIface
  | .data y, v => ∃ vs, v = .iface 25 (.agg vs.toArray) ∧ OwN B C w y.vs vs
  | .sack y, v => ∃ vs, v = .iface 34 (.agg vs.toArray) ∧ OwN B C w y.vs vs
  | .init k y, v => ∃ vs, v = .iface 100 (.agg vs.toArray) ∧ OwN B C w (y.vs ++ [.int k]) vs
  | .ask y, v => ∃ vs, v = .iface 59 (.agg vs.toArray) ∧ OwN B C w y.vs vs
  | .ans y, v => ∃ vs, v = .iface 63 (.agg vs.toArray) ∧ OwN B C w y.vs vs
end Go.Proofs.YtjjileefdjjijaaDoor

/- The program's byteReader over nothing: its contracts for a nil or an empty slice. -/
namespace Go.Proofs.YtjjileefdjjijaaDoor
open Go.RowKit Go.Deep

/-- A reader with nothing to read. -/
structure R0 (w : World) (r : Nat) (ty : TypeId) (pv : Value) : Prop where
  blk : ∃ A c, Blk w r 159 #[.slice A 0 c]
  e : w.cell? ⟨0, 0, none⟩ = some (.iface ty pv)
  pos : 0 < r
theorem R0.lt {w : World} {r : Nat} {ty : TypeId} {pv : Value} (h : R0 w r ty pv) : r < w.heap.size := by
  obtain ⟨A, c, K⟩ := h.blk
  exact K.lt
theorem R0.below {w w' : World} {r : Nat} {ty : TypeId} {pv : Value} (h : R0 w r ty pv) (hb : Below w.heap.size w w') : R0 w' r ty pv := by
  obtain ⟨A, c, K⟩ := h.blk
  exact ⟨⟨A, c, K.below hb⟩, (hb.cell (p := ⟨0, 0, none⟩) (Nat.lt_trans h.pos K.lt)).trans h.e, h.pos⟩
theorem take_nil (r : Nat) (w : World) (ty : TypeId) (pv : Value) (h : R0 w r ty pv) :
    Calls Tryd.prog 141 #[.pointer (some ⟨r, 0, none⟩), .int .i64 4] w fun e w' => e = PanE (.iface ty pv) ∧ w' = w := by
  obtain ⟨⟨A, c, K⟩, hE, hp⟩ := h
  have c0 := K.cell 0
  have hlt := K.lt
  simp only [List.getElem?_toArray, List.getElem?_cons_zero] at c0
  unfold PanE
  go_enter Tryd.func141, Tryd.ntmps141
  go_wp2
  exact ⟨rfl, rfl, rfl⟩
theorem word_nil (r : Nat) (w : World) (ty : TypeId) (pv : Value) (h : R0 w r ty pv) :
    Calls Tryd.prog 135 #[.pointer (some ⟨r, 0, none⟩)] w fun e w' => e = PanE (.iface ty pv) ∧ Below w.heap.size w w' := by
  have HT := hidH (take_nil r w ty pv h)
  clear h
  unfold PanE at HT ⊢
  go_enter Tryd.func135, Tryd.ntmps135
  go_wp2_with fail
  refine HT.out.mono ?_
  rintro e w1 ⟨rfl, rfl⟩
  clear HT
  go_wp2
  exact ⟨rfl, rfl, Below.refl _ _⟩
set_option maxRecDepth 100000 in
set_option maxHeartbeats 2000000 in
theorem data_nil (r : Nat) (f : Int) (w : World) (ty : TypeId) (pv : Value) (h : R0 w r ty pv) :
    Calls Tryd.prog 127 #[.pointer (some ⟨r, 0, none⟩), .int .i64 f] w fun e w' => e = PanE (.iface ty pv) ∧ Below w.heap.size w w' := by
  have B1 := bal (Below.refl w.heap.size w) (.cells #[.int .i64 0, .int .i64 0, .int .i64 0, .bool false, .bool false, .bool false, .slice none 0 0] 25)
  obtain ⟨w1, hw1⟩ : ∃ w1, w.alloc (.cells #[.int .i64 0, .int .i64 0, .int .i64 0, .bool false, .bool false, .bool false, .slice none 0 0] 25) = w1 := ⟨_, rfl⟩
  rw [hw1] at B1
  have HC := hidH (word_nil r w1 ty pv (h.below B1))
  unfold PanE at HC ⊢
  have HW1 := hidH hw1
  have HB := hidH B1
  have hrl := h.lt
  clear h B1 hw1
  go_enter Tryd.func127, Tryd.ntmps127
  go_wp2_with fail
  rw [HW1.out]
  refine HC.out.mono ?_
  rintro e w2 ⟨rfl, hw⟩
  have W2 := hidH (btr HB.out hw)
  clear HC hw HW1 HB
  go_wp2
  exact ⟨rfl, rfl, W2.out⟩
set_option maxRecDepth 100000 in
set_option maxHeartbeats 2000000 in
theorem sack_nil (r : Nat) (_f : Int) (w : World) (ty : TypeId) (pv : Value) (h : R0 w r ty pv) :
    Calls Tryd.prog 128 #[.pointer (some ⟨r, 0, none⟩)] w fun e w' => e = PanE (.iface ty pv) ∧ Below w.heap.size w w' := by
  have B1 := bal (Below.refl w.heap.size w) (.cells #[.int .i64 0, .slice none 0 0] 34)
  obtain ⟨w1, hw1⟩ : ∃ w1, w.alloc (.cells #[.int .i64 0, .slice none 0 0] 34) = w1 := ⟨_, rfl⟩
  rw [hw1] at B1
  have HC := hidH (word_nil r w1 ty pv (h.below B1))
  unfold PanE at HC ⊢
  have HW1 := hidH hw1
  have HB := hidH B1
  have hrl := h.lt
  clear h B1 hw1
  go_enter Tryd.func128, Tryd.ntmps128
  go_wp2_with fail
  rw [HW1.out]
  refine HC.out.mono ?_
  rintro e w2 ⟨rfl, hw⟩
  have W2 := hidH (btr HB.out hw)
  clear HC hw HW1 HB
  go_wp2
  exact ⟨rfl, rfl, W2.out⟩
set_option maxRecDepth 100000 in
set_option maxHeartbeats 2000000 in
theorem asconf_nil (r : Nat) (_f : Int) (w : World) (ty : TypeId) (pv : Value) (h : R0 w r ty pv) :
    Calls Tryd.prog 130 #[.pointer (some ⟨r, 0, none⟩)] w fun e w' => e = PanE (.iface ty pv) ∧ Below w.heap.size w w' := by
  have B1 := bal (Below.refl w.heap.size w) (.cells #[.int .i64 0, .slice none 0 0] 59)
  obtain ⟨w1, hw1⟩ : ∃ w1, w.alloc (.cells #[.int .i64 0, .slice none 0 0] 59) = w1 := ⟨_, rfl⟩
  rw [hw1] at B1
  have HC := hidH (word_nil r w1 ty pv (h.below B1))
  unfold PanE at HC ⊢
  have HW1 := hidH hw1
  have HB := hidH B1
  have hrl := h.lt
  clear h B1 hw1
  go_enter Tryd.func130, Tryd.ntmps130
  go_wp2_with fail
  rw [HW1.out]
  refine HC.out.mono ?_
  rintro e w2 ⟨rfl, hw⟩
  have W2 := hidH (btr HB.out hw)
  clear HC hw HW1 HB
  go_wp2
  exact ⟨rfl, rfl, W2.out⟩
set_option maxRecDepth 100000 in
set_option maxHeartbeats 2000000 in
theorem answer_nil (r : Nat) (_f : Int) (w : World) (ty : TypeId) (pv : Value) (h : R0 w r ty pv) :
    Calls Tryd.prog 131 #[.pointer (some ⟨r, 0, none⟩)] w fun e w' => e = PanE (.iface ty pv) ∧ Below w.heap.size w w' := by
  have B1 := bal (Below.refl w.heap.size w) (.cells #[.int .i64 0, .slice none 0 0] 63)
  obtain ⟨w1, hw1⟩ : ∃ w1, w.alloc (.cells #[.int .i64 0, .slice none 0 0] 63) = w1 := ⟨_, rfl⟩
  rw [hw1] at B1
  have HC := hidH (word_nil r w1 ty pv (h.below B1))
  unfold PanE at HC ⊢
  have HW1 := hidH hw1
  have HB := hidH B1
  have hrl := h.lt
  clear h B1 hw1
  go_enter Tryd.func131, Tryd.ntmps131
  go_wp2_with fail
  rw [HW1.out]
  refine HC.out.mono ?_
  rintro e w2 ⟨rfl, hw⟩
  have W2 := hidH (btr HB.out hw)
  clear HC hw HW1 HB
  go_wp2
  exact ⟨rfl, rfl, W2.out⟩
set_option maxRecDepth 100000 in
set_option maxHeartbeats 2000000 in
theorem greeting_nil (r : Nat) (f : Int) (w : World) (ty : TypeId) (pv : Value) (h : R0 w r ty pv) :
    Calls Tryd.prog 129 #[.pointer (some ⟨r, 0, none⟩), .int .i64 f] w fun e w' => e = PanE (.iface ty pv) ∧ Below w.heap.size w w' := by
  have B1 := bal (Below.refl w.heap.size w) (.cells #[.int .i64 0, .int .i64 0, .slice none 0 0, .slice none 0 0, .slice none 0 0, .int .i64 0] 100)
  obtain ⟨w1, hw1⟩ : ∃ w1, w.alloc (.cells #[.int .i64 0, .int .i64 0, .slice none 0 0, .slice none 0 0, .slice none 0 0, .int .i64 0] 100) = w1 := ⟨_, rfl⟩
  rw [hw1] at B1
  have HC := hidH (word_nil r w1 ty pv (h.below B1))
  unfold PanE at HC ⊢
  have HW1 := hidH hw1
  have HB := hidH B1
  have hrl := h.lt
  clear h B1 hw1
  go_enter Tryd.func129, Tryd.ntmps129
  go_wp2_with fail
  rw [HW1.out]
  refine HC.out.mono ?_
  rintro e w2 ⟨rfl, hw⟩
  have W2 := hidH (btr HB.out hw)
  clear HC hw HW1 HB
  go_wp2
  exact ⟨rfl, rfl, W2.out⟩
set_option maxRecDepth 100000 in
set_option maxHeartbeats 2000000 in
theorem c0_0 (r : Nat) (f : Int) (w : World) (ty : TypeId) (pv : Value) (h : R0 w r ty pv) :
    Calls Tryd.prog 113 #[.pointer (some ⟨r, 0, none⟩), .int .i64 0, .int .i64 f] w fun e w' => e = PanE (.iface ty pv) ∧ Below w.heap.size w w' := by
  have HC := hidH (data_nil r f w ty pv h)
  clear h
  unfold PanE at HC ⊢
  go_enter Tryd.func113, Tryd.ntmps113
  go_wp2_with fail
  refine HC.out.mono ?_
  rintro e w2 ⟨rfl, hw⟩
  have HR := hidH hw
  clear HC hw
  go_wp2
  exact ⟨rfl, rfl, HR.out⟩
set_option maxRecDepth 100000 in
set_option maxHeartbeats 2000000 in
theorem c0_3 (r : Nat) (f : Int) (w : World) (ty : TypeId) (pv : Value) (h : R0 w r ty pv) :
    Calls Tryd.prog 113 #[.pointer (some ⟨r, 0, none⟩), .int .i64 3, .int .i64 f] w fun e w' => e = PanE (.iface ty pv) ∧ Below w.heap.size w w' := by
  have HC := hidH (sack_nil r f w ty pv h)
  clear h
  unfold PanE at HC ⊢
  go_enter Tryd.func113, Tryd.ntmps113
  go_wp2_with fail
  refine HC.out.mono ?_
  rintro e w2 ⟨rfl, hw⟩
  have HR := hidH hw
  clear HC hw
  go_wp2
  exact ⟨rfl, rfl, HR.out⟩
set_option maxRecDepth 100000 in
set_option maxHeartbeats 2000000 in
theorem c0_1 (r : Nat) (f : Int) (w : World) (ty : TypeId) (pv : Value) (h : R0 w r ty pv) :
    Calls Tryd.prog 113 #[.pointer (some ⟨r, 0, none⟩), .int .i64 1, .int .i64 f] w fun e w' => e = PanE (.iface ty pv) ∧ Below w.heap.size w w' := by
  have HC := hidH (greeting_nil r 1 w ty pv h)
  clear h
  unfold PanE at HC ⊢
  go_enter Tryd.func113, Tryd.ntmps113
  go_wp2_with fail
  refine HC.out.mono ?_
  rintro e w2 ⟨rfl, hw⟩
  have HR := hidH hw
  clear HC hw
  go_wp2
  exact ⟨rfl, rfl, HR.out⟩
set_option maxRecDepth 100000 in
set_option maxHeartbeats 2000000 in
theorem c0_2 (r : Nat) (f : Int) (w : World) (ty : TypeId) (pv : Value) (h : R0 w r ty pv) :
    Calls Tryd.prog 113 #[.pointer (some ⟨r, 0, none⟩), .int .i64 2, .int .i64 f] w fun e w' => e = PanE (.iface ty pv) ∧ Below w.heap.size w w' := by
  have HC := hidH (greeting_nil r 2 w ty pv h)
  clear h
  unfold PanE at HC ⊢
  go_enter Tryd.func113, Tryd.ntmps113
  go_wp2_with fail
  refine HC.out.mono ?_
  rintro e w2 ⟨rfl, hw⟩
  have HR := hidH hw
  clear HC hw
  go_wp2
  exact ⟨rfl, rfl, HR.out⟩
set_option maxRecDepth 100000 in
set_option maxHeartbeats 2000000 in
theorem c0_193 (r : Nat) (f : Int) (w : World) (ty : TypeId) (pv : Value) (h : R0 w r ty pv) :
    Calls Tryd.prog 113 #[.pointer (some ⟨r, 0, none⟩), .int .i64 193, .int .i64 f] w fun e w' => e = PanE (.iface ty pv) ∧ Below w.heap.size w w' := by
  have HC := hidH (asconf_nil r f w ty pv h)
  clear h
  unfold PanE at HC ⊢
  go_enter Tryd.func113, Tryd.ntmps113
  go_wp2_with fail
  refine HC.out.mono ?_
  rintro e w2 ⟨rfl, hw⟩
  have HR := hidH hw
  clear HC hw
  go_wp2
  exact ⟨rfl, rfl, HR.out⟩
set_option maxRecDepth 100000 in
set_option maxHeartbeats 2000000 in
theorem c0_128 (r : Nat) (f : Int) (w : World) (ty : TypeId) (pv : Value) (h : R0 w r ty pv) :
    Calls Tryd.prog 113 #[.pointer (some ⟨r, 0, none⟩), .int .i64 128, .int .i64 f] w fun e w' => e = PanE (.iface ty pv) ∧ Below w.heap.size w w' := by
  have HC := hidH (answer_nil r f w ty pv h)
  clear h
  unfold PanE at HC ⊢
  go_enter Tryd.func113, Tryd.ntmps113
  go_wp2_with fail
  refine HC.out.mono ?_
  rintro e w2 ⟨rfl, hw⟩
  have HR := hidH hw
  clear HC hw
  go_wp2
  exact ⟨rfl, rfl, HR.out⟩
/-- A chunk with no body: the reader panics, whatever the kind. -/
theorem ct_empty (r : Nat) (k f : Int) (w : World) (ty : TypeId) (pv : Value) (h : R0 w r ty pv) :
    Calls Tryd.prog 113 #[.pointer (some ⟨r, 0, none⟩), .int .i64 k, .int .i64 f] w (CtBad r ty pv w) := by
  by_cases h0 : k = 0
  · subst h0; exact (c0_0 r f w ty pv h).mono fun e w' q => ⟨q.1, Win.of_below q.2⟩
  by_cases h3 : k = 3
  · subst h3; exact (c0_3 r f w ty pv h).mono fun e w' q => ⟨q.1, Win.of_below q.2⟩
  by_cases h1 : k = 1
  · subst h1; exact (c0_1 r f w ty pv h).mono fun e w' q => ⟨q.1, Win.of_below q.2⟩
  by_cases h2 : k = 2
  · subst h2; exact (c0_2 r f w ty pv h).mono fun e w' q => ⟨q.1, Win.of_below q.2⟩
  by_cases h193 : k = 193
  · subst h193; exact (c0_193 r f w ty pv h).mono fun e w' q => ⟨q.1, Win.of_below q.2⟩
  by_cases h128 : k = 128
  · subst h128; exact (c0_128 r f w ty pv h).mono fun e w' q => ⟨q.1, Win.of_below q.2⟩
  exact ct_none r k f w ty pv h.e h0 h3 h1 h2 h193 h128
end Go.Proofs.YtjjileefdjjijaaDoor
