/- The program's byteReader: content. -/
import Derived.Test.YtgghelpbobbkgaaDoorRgI
namespace Go.Proofs.YtgghelpbobbkgaaDoor
open Go.RowKit Go.Deep

def CtRes (r : Nat) (T : TypeId) (xs : List V) (w : World) (e : Ending) (w' : World) : Prop := ∃ vs : List Value, e = .returned (.iface T (.agg vs.toArray)) ∧ OwN w.heap.size w'.heap.size w' xs vs ∧ Win r (r + 1) w w'
def CtBad (r : Nat) (ty : TypeId) (pv : Value) (w : World) (e : Ending) (w' : World) : Prop := e = PanE (.iface ty pv) ∧ Win r (r + 1) w w'
set_option maxRecDepth 100000 in
set_option maxHeartbeats 2000000 in
theorem ct_data_ok (r : Nat) (f : Int) (l : List Int) (w : World) (ty : TypeId) (pv : Value) (h : RE w r ty pv l) (hm : l.length ≤ 4000000) (g : 8 ≤ l.length) :
    Calls Tryd.prog 121 #[.pointer (some ⟨r, 0, none⟩), .int .i64 0, .int .i64 f] w (CtRes r 25 (rdY f l).vs w) := by
  have HC := hidH (data_ok r f l w ty pv h g (by omega))
  clear h g hm
  go_enter Tryd.func121, Tryd.ntmps121
  go_wp2_with fail
  refine HC.out.mono ?_
  rintro e w2 ⟨vs, rfl, hO, hw⟩
  have HR := hidH (And.intro hO hw)
  clear HC hO hw
  go_wp2
  go_ret
  exact ⟨vs, rfl, HR.out⟩
set_option maxRecDepth 100000 in
set_option maxHeartbeats 2000000 in
theorem ct_data_bad (r : Nat) (f : Int) (l : List Int) (w : World) (ty : TypeId) (pv : Value) (h : RE w r ty pv l) (hm : l.length ≤ 4000000) (g : ¬ (8 ≤ l.length)) :
    Calls Tryd.prog 121 #[.pointer (some ⟨r, 0, none⟩), .int .i64 0, .int .i64 f] w (CtBad r ty pv w) := by
  have HC := hidH (data_bad r f l w ty pv h (by omega))
  clear h g hm
  unfold CtBad PanE
  unfold PanE at HC
  go_enter Tryd.func121, Tryd.ntmps121
  go_wp2_with fail
  refine HC.out.mono ?_
  rintro e w2 ⟨rfl, hw⟩
  have HR := hidH hw
  clear HC hw
  go_wp2
  exact ⟨rfl, rfl, HR.out⟩
set_option maxRecDepth 100000 in
set_option maxHeartbeats 2000000 in
theorem ct_sack_ok (r : Nat) (f : Int) (l : List Int) (w : World) (ty : TypeId) (pv : Value) (h : RE w r ty pv l) (hm : l.length ≤ 4000000) (g : 5 ≤ l.length ∧ 5 + 4 * cntN l 4 ≤ l.length) :
    Calls Tryd.prog 121 #[.pointer (some ⟨r, 0, none⟩), .int .i64 3, .int .i64 f] w (CtRes r 34 (SackM.vs ⟨atW l 0, gapsOf ((l.drop 5).take (4 * cntN l 4))⟩) w) := by
  have HC := hidH (sack_ok r l w ty pv h g.1 g.2 hm)
  clear h g hm
  go_enter Tryd.func121, Tryd.ntmps121
  go_wp2_with fail
  refine HC.out.mono ?_
  rintro e w2 ⟨vs, rfl, hO, hw⟩
  have HR := hidH (And.intro hO hw)
  clear HC hO hw
  go_wp2
  go_ret
  exact ⟨vs, rfl, HR.out⟩
set_option maxRecDepth 100000 in
set_option maxHeartbeats 2000000 in
theorem ct_sack_bad (r : Nat) (f : Int) (l : List Int) (w : World) (ty : TypeId) (pv : Value) (h : RE w r ty pv l) (hm : l.length ≤ 4000000) (g : ¬ (5 ≤ l.length ∧ 5 + 4 * cntN l 4 ≤ l.length)) :
    Calls Tryd.prog 121 #[.pointer (some ⟨r, 0, none⟩), .int .i64 3, .int .i64 f] w (CtBad r ty pv w) := by
  have HC := hidH (sack_bad r l w ty pv h g hm)
  clear h g hm
  unfold CtBad PanE
  unfold PanE at HC
  go_enter Tryd.func121, Tryd.ntmps121
  go_wp2_with fail
  refine HC.out.mono ?_
  rintro e w2 ⟨rfl, hw⟩
  have HR := hidH hw
  clear HC hw
  go_wp2
  exact ⟨rfl, rfl, HR.out⟩
set_option maxRecDepth 100000 in
set_option maxHeartbeats 2000000 in
theorem ct_asconf_ok (r : Nat) (f : Int) (l : List Int) (w : World) (ty : TypeId) (pv : Value) (h : RE w r ty pv l) (hm : l.length ≤ 4000000) (g : 5 ≤ l.length ∧ 5 + 2 * cntN l 4 ≤ l.length) :
    Calls Tryd.prog 121 #[.pointer (some ⟨r, 0, none⟩), .int .i64 193, .int .i64 f] w (CtRes r 59 (AsconfM.vs ⟨atW l 0, opsOf ((l.drop 5).take (2 * cntN l 4))⟩) w) := by
  have HC := hidH (asconf_ok r l w ty pv h g.1 g.2 hm)
  clear h g hm
  go_enter Tryd.func121, Tryd.ntmps121
  go_wp2_with fail
  refine HC.out.mono ?_
  rintro e w2 ⟨vs, rfl, hO, hw⟩
  have HR := hidH (And.intro hO hw)
  clear HC hO hw
  go_wp2
  go_ret
  exact ⟨vs, rfl, HR.out⟩
set_option maxRecDepth 100000 in
set_option maxHeartbeats 2000000 in
theorem ct_asconf_bad (r : Nat) (f : Int) (l : List Int) (w : World) (ty : TypeId) (pv : Value) (h : RE w r ty pv l) (hm : l.length ≤ 4000000) (g : ¬ (5 ≤ l.length ∧ 5 + 2 * cntN l 4 ≤ l.length)) :
    Calls Tryd.prog 121 #[.pointer (some ⟨r, 0, none⟩), .int .i64 193, .int .i64 f] w (CtBad r ty pv w) := by
  have HC := hidH (asconf_bad r l w ty pv h g hm)
  clear h g hm
  unfold CtBad PanE
  unfold PanE at HC
  go_enter Tryd.func121, Tryd.ntmps121
  go_wp2_with fail
  refine HC.out.mono ?_
  rintro e w2 ⟨rfl, hw⟩
  have HR := hidH hw
  clear HC hw
  go_wp2
  exact ⟨rfl, rfl, HR.out⟩
set_option maxRecDepth 100000 in
set_option maxHeartbeats 2000000 in
theorem ct_answer_ok (r : Nat) (f : Int) (l : List Int) (w : World) (ty : TypeId) (pv : Value) (h : RE w r ty pv l) (hm : l.length ≤ 4000000) (g : cntOk l 4) :
    Calls Tryd.prog 121 #[.pointer (some ⟨r, 0, none⟩), .int .i64 128, .int .i64 f] w (CtRes r 63 (rawV l).vs w) := by
  have HC := hidH (answer_ok r l w ty pv h g hm)
  clear h g hm
  go_enter Tryd.func121, Tryd.ntmps121
  go_wp2_with fail
  refine HC.out.mono ?_
  rintro e w2 ⟨vs, rfl, hO, hw⟩
  have HR := hidH (And.intro hO hw)
  clear HC hO hw
  go_wp2
  go_ret
  exact ⟨vs, rfl, HR.out⟩
set_option maxRecDepth 100000 in
set_option maxHeartbeats 2000000 in
theorem ct_answer_bad (r : Nat) (f : Int) (l : List Int) (w : World) (ty : TypeId) (pv : Value) (h : RE w r ty pv l) (hm : l.length ≤ 4000000) (g : ¬ (cntOk l 4)) :
    Calls Tryd.prog 121 #[.pointer (some ⟨r, 0, none⟩), .int .i64 128, .int .i64 f] w (CtBad r ty pv w) := by
  have HC := hidH (answer_bad r l w ty pv h g hm)
  clear h g hm
  unfold CtBad PanE
  unfold PanE at HC
  go_enter Tryd.func121, Tryd.ntmps121
  go_wp2_with fail
  refine HC.out.mono ?_
  rintro e w2 ⟨rfl, hw⟩
  have HR := hidH hw
  clear HC hw
  go_wp2
  exact ⟨rfl, rfl, HR.out⟩
theorem rin_parts {l : List Int} : rinOk l ↔ 4 ≤ l.length ∧ 4 ≤ (l.drop 4).length ∧ 16 ≤ ((l.drop 4).drop 4).length ∧ cntOk (((l.drop 4).drop 4).drop 16) 0 ∧ 1 ≤ ((((l.drop 4).drop 4).drop 16).drop (1 + cntN (((l.drop 4).drop 4).drop 16) 0)).length ∧ cntN ((((l.drop 4).drop 4).drop 16).drop (1 + cntN (((l.drop 4).drop 4).drop 16) 0)) 0 ≤ (((((l.drop 4).drop 4).drop 16).drop (1 + cntN (((l.drop 4).drop 4).drop 16) 0)).drop 1).length := by
  have e3 : ((l.drop 4).drop 4).drop 16 = l.drop 24 := by rw [List.drop_drop, List.drop_drop]
  have e4 : (l.drop 24).drop (1 + cntN (l.drop 24) 0) = l.drop (25 + cntN l 24) := by rw [← cntN_drop, List.drop_drop]; congr 1; omega
  rw [e3, e4, ← cnt_drop, ← cntN_drop]
  unfold rinOk
  simp only [List.length_drop]
  unfold cntOk
  omega
theorem rin_val {l : List Int} : [V.int (atW l 0), .int (atW (l.drop 4) 0), .bs (((l.drop 4).drop 4).take 16), .is (cntL (((l.drop 4).drop 4).drop 16) 0), .bs ((((((l.drop 4).drop 4).drop 16).drop (1 + cntN (((l.drop 4).drop 4).drop 16) 0)).drop 1).take (cntN ((((l.drop 4).drop 4).drop 16).drop (1 + cntN (((l.drop 4).drop 4).drop 16) 0)) 0))] = (rinV l).vs := by
  have e3 : ((l.drop 4).drop 4).drop 16 = l.drop 24 := by rw [List.drop_drop, List.drop_drop]
  have e4 : (l.drop 24).drop (1 + cntN (l.drop 24) 0) = l.drop (25 + cntN l 24) := by rw [← cntN_drop, List.drop_drop]; congr 1; omega
  rw [e3, e4, ← cntN_drop, ← cntL_drop, show (l.drop 4).drop 4 = l.drop 8 by rw [List.drop_drop], ← atW_drop]
  unfold rinV
  simp only [InitM.vs]
  rw [cntL, cntL, List.drop_drop]
theorem greeting_ok (r : Nat) (k : Int) (l : List Int) (w : World) (ty : TypeId) (pv : Value) (h : RE w r ty pv l) (g : rinOk l) (hm : l.length ≤ 4000000) :
    Calls Tryd.prog 137 #[.pointer (some ⟨r, 0, none⟩), .int .i64 k] w (StRes r ((rinV l).vs ++ [.int k]) w) := by
  obtain ⟨g0, g1, g2, g3, g4, g5⟩ := rin_parts.1 g
  have := greet_ok r k l _ _ _ _ _ w ty pv h rfl rfl rfl rfl rfl hm g0 g1 g2 g3 g4 g5
  rw [← rin_val]
  exact this
theorem greeting_bad (r : Nat) (k : Int) (l : List Int) (w : World) (ty : TypeId) (pv : Value) (h : RE w r ty pv l) (g : ¬ rinOk l) (hm : l.length ≤ 4000000) :
    Calls Tryd.prog 137 #[.pointer (some ⟨r, 0, none⟩), .int .i64 k] w fun e w' => e = PanE (.iface ty pv) ∧ Win r (r + 1) w w' := by
  by_cases g0 : 4 ≤ l.length
  · by_cases g1 : 4 ≤ (l.drop 4).length
    · by_cases g2 : 16 ≤ ((l.drop 4).drop 4).length
      · by_cases g3 : cntOk (((l.drop 4).drop 4).drop 16) 0
        · by_cases g4 : 1 ≤ ((((l.drop 4).drop 4).drop 16).drop (1 + cntN (((l.drop 4).drop 4).drop 16) 0)).length
          · by_cases g5 : cntN ((((l.drop 4).drop 4).drop 16).drop (1 + cntN (((l.drop 4).drop 4).drop 16) 0)) 0 ≤ (((((l.drop 4).drop 4).drop 16).drop (1 + cntN (((l.drop 4).drop 4).drop 16) 0)).drop 1).length
            · exact absurd (rin_parts.2 ⟨g0, g1, g2, g3, g4, g5⟩) g
            · exact greet_bad5 r k l _ _ _ _ _ w ty pv h rfl rfl rfl rfl rfl hm g0 g1 g2 g3 g4 g5
          · exact greet_bad4 r k l _ _ _ _ _ w ty pv h rfl rfl rfl rfl rfl hm g0 g1 g2 g3 g4
        · exact greet_bad3 r k l _ _ _ _ _ w ty pv h rfl rfl rfl rfl rfl hm g0 g1 g2 g3
      · exact greet_bad2 r k l _ _ _ _ _ w ty pv h rfl rfl rfl rfl rfl hm g0 g1 g2
    · exact greet_bad1 r k l _ _ _ _ _ w ty pv h rfl rfl rfl rfl rfl hm g0 g1
  · exact greet_bad0 r k l _ _ _ _ _ w ty pv h rfl rfl rfl rfl rfl hm g0
set_option maxRecDepth 100000 in
set_option maxHeartbeats 2000000 in
theorem ct_greet1_ok (r : Nat) (f : Int) (l : List Int) (w : World) (ty : TypeId) (pv : Value) (h : RE w r ty pv l) (hm : l.length ≤ 4000000) (g : rinOk l) :
    Calls Tryd.prog 121 #[.pointer (some ⟨r, 0, none⟩), .int .i64 1, .int .i64 f] w (CtRes r 102 ((rinV l).vs ++ [.int 1]) w) := by
  have HC := hidH (greeting_ok r 1 l w ty pv h g hm)
  clear h g hm
  go_enter Tryd.func121, Tryd.ntmps121
  go_wp2_with fail
  refine HC.out.mono ?_
  rintro e w2 ⟨vs, rfl, hO, hw⟩
  have HR := hidH (And.intro hO hw)
  clear HC hO hw
  go_wp2
  go_ret
  exact ⟨vs, rfl, HR.out⟩
set_option maxRecDepth 100000 in
set_option maxHeartbeats 2000000 in
theorem ct_greet1_bad (r : Nat) (f : Int) (l : List Int) (w : World) (ty : TypeId) (pv : Value) (h : RE w r ty pv l) (hm : l.length ≤ 4000000) (g : ¬ (rinOk l)) :
    Calls Tryd.prog 121 #[.pointer (some ⟨r, 0, none⟩), .int .i64 1, .int .i64 f] w (CtBad r ty pv w) := by
  have HC := hidH (greeting_bad r 1 l w ty pv h g hm)
  clear h g hm
  unfold CtBad PanE
  unfold PanE at HC
  go_enter Tryd.func121, Tryd.ntmps121
  go_wp2_with fail
  refine HC.out.mono ?_
  rintro e w2 ⟨rfl, hw⟩
  have HR := hidH hw
  clear HC hw
  go_wp2
  exact ⟨rfl, rfl, HR.out⟩
set_option maxRecDepth 100000 in
set_option maxHeartbeats 2000000 in
theorem ct_greet2_ok (r : Nat) (f : Int) (l : List Int) (w : World) (ty : TypeId) (pv : Value) (h : RE w r ty pv l) (hm : l.length ≤ 4000000) (g : rinOk l) :
    Calls Tryd.prog 121 #[.pointer (some ⟨r, 0, none⟩), .int .i64 2, .int .i64 f] w (CtRes r 102 ((rinV l).vs ++ [.int 2]) w) := by
  have HC := hidH (greeting_ok r 2 l w ty pv h g hm)
  clear h g hm
  go_enter Tryd.func121, Tryd.ntmps121
  go_wp2_with fail
  refine HC.out.mono ?_
  rintro e w2 ⟨vs, rfl, hO, hw⟩
  have HR := hidH (And.intro hO hw)
  clear HC hO hw
  go_wp2
  go_ret
  exact ⟨vs, rfl, HR.out⟩
set_option maxRecDepth 100000 in
set_option maxHeartbeats 2000000 in
theorem ct_greet2_bad (r : Nat) (f : Int) (l : List Int) (w : World) (ty : TypeId) (pv : Value) (h : RE w r ty pv l) (hm : l.length ≤ 4000000) (g : ¬ (rinOk l)) :
    Calls Tryd.prog 121 #[.pointer (some ⟨r, 0, none⟩), .int .i64 2, .int .i64 f] w (CtBad r ty pv w) := by
  have HC := hidH (greeting_bad r 2 l w ty pv h g hm)
  clear h g hm
  unfold CtBad PanE
  unfold PanE at HC
  go_enter Tryd.func121, Tryd.ntmps121
  go_wp2_with fail
  refine HC.out.mono ?_
  rintro e w2 ⟨rfl, hw⟩
  have HR := hidH hw
  clear HC hw
  go_wp2
  exact ⟨rfl, rfl, HR.out⟩
set_option maxRecDepth 100000 in
set_option maxHeartbeats 2000000 in
theorem ct_none (r : Nat) (k f : Int) (w : World) (ty : TypeId) (pv : Value) (hE : w.cell? ⟨0, 0, none⟩ = some (.iface ty pv)) (h0 : k ≠ 0) (h3 : k ≠ 3) (h1 : k ≠ 1) (h2 : k ≠ 2) (h193 : k ≠ 193) (h128 : k ≠ 128) :
    Calls Tryd.prog 121 #[.pointer (some ⟨r, 0, none⟩), .int .i64 k, .int .i64 f] w (CtBad r ty pv w) := by
  have e0 : (k == 0) = false := by rw [beq_eq_false_iff_ne]; exact h0
  have e3 : (k == 3) = false := by rw [beq_eq_false_iff_ne]; exact h3
  have e1 : (k == 1) = false := by rw [beq_eq_false_iff_ne]; exact h1
  have e2 : (k == 2) = false := by rw [beq_eq_false_iff_ne]; exact h2
  have e4 : (k == 193) = false := by rw [beq_eq_false_iff_ne]; exact h193
  have e5 : (k == 128) = false := by rw [beq_eq_false_iff_ne]; exact h128
  have hpos : 0 < w.heap.size := World.block_lt_of_cell? _ _ hE
  unfold CtBad PanE
  clear h0 h1 h2 h3 h193 h128
  go_enter Tryd.func121, Tryd.ntmps121
  go_wp2
  exact ⟨rfl, rfl, Win.refl _ _ _⟩
end Go.Proofs.YtgghelpbobbkgaaDoor
