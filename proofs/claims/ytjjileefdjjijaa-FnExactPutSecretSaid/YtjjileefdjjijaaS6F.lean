/- Chapter 6: the faults of secrets, the program's and the model's. -/
import Derived.Test.YtjjileefdjjijaaM6
import Derived.BigQuiet
namespace Go.Proofs.Ytjjileefdjjijaa
open Go.RowKit Go.Deep

theorem sec_at {w : World} {r : List SecretM} {v : Value} (h : Rd w (st_Secret r) v) {j : Nat} (hj : j < r.length) :
    ∃ g o c A cA, v = .slice (some ⟨g, o, none⟩) r.length c ∧ g < w.heap.size ∧ w.cell? ⟨g, o + j * 2, none⟩ = some (.int .i64 r[j].Id) ∧ w.cell? ⟨g, o + j * 2 + 1, none⟩ = some (.slice A r[j].Bytes.length cA) ∧ Rd w (.bs r[j].Bytes) (.slice A r[j].Bytes.length cA) := by
  obtain ⟨gb, ob, cb, eb, hgb, RB⟩ := Rd.row (f := SecretM.vs) (W := 2) (fun _ => rfl) h hj
  obtain ⟨u0, p0, t0⟩ := RB 0 (.int r[j].Id) rfl
  obtain ⟨u1, p1, t1⟩ := RB 1 (.bs r[j].Bytes) rfl
  have e0 := t0.int_out
  subst e0
  rw [Nat.add_zero] at p0
  obtain ⟨A, cA, e1⟩ := t1.bs_sh
  subst e1
  exact ⟨gb, ob, cb, A, cA, eb, hgb, p0, p1, t1⟩
theorem secF_id {x : SecretM} (h : inB x.Id 0 99 = false) : secF x = 3 := by simp [secF, h]
theorem secF_in {x : SecretM} (h : inB x.Id 0 99 = true) : secF x = if x.Bytes.length ≤ 40 then 0 else 2 := by simp [secF, h]
set_option maxRecDepth 100000 in
set_option maxHeartbeats 1000000 in
theorem l6Fault_any (g o : Nat) (x : SecretM) (A : Option Addr) (c : Nat) (w : World) (p0 : w.cell? ⟨g, o, none⟩ = some (.int .i64 x.Id)) (p1 : w.cell? ⟨g, o + 1, none⟩ = some (.slice A x.Bytes.length c)) :
    Calls Try.prog 42 #[.pointer (some ⟨g, o, none⟩)] w fun e w' => e = .returned (.int .i64 (secF x)) ∧ w = w' := by
  obtain ⟨b, hb⟩ : ∃ b, inB x.Id 0 99 = b := ⟨_, rfl⟩
  cases b
  · rw [secF_id hb]
    go_enter Try.func42, Try.ntmps42
    go_wp2_with (first | (go_at_call 65; refine (in_any _ _ _ _).mono ?_; rintro e w' ⟨rfl, rfl⟩))
    go_ret
    exact ⟨rfl, rfl⟩
  · rw [secF_in hb]
    by_cases hl : x.Bytes.length ≤ 40
    · rw [if_pos hl]
      have hl' : ¬ (40 : Int) < (x.Bytes.length : Int) := by omega
      clear hl
      go_enter Try.func42, Try.ntmps42
      go_wp2_with (first | (go_at_call 65; refine (in_any _ _ _ _).mono ?_; rintro e w' ⟨rfl, rfl⟩))
      go_ret
      exact ⟨rfl, rfl⟩
    · rw [if_neg hl]
      have hl' : (40 : Int) < (x.Bytes.length : Int) := by omega
      clear hl
      go_enter Try.func42, Try.ntmps42
      go_wp2_with (first | (go_at_call 65; refine (in_any _ _ _ _).mono ?_; rintro e w' ⟨rfl, rfl⟩))
      go_ret
      exact ⟨rfl, rfl⟩
set_option maxHeartbeats 400000 in
theorem isId_any (n : Int) (w : World) : Calls Try.prog 66 #[.int .i64 n] w fun e w' => e = .returned (.bool (inB n 0 99)) ∧ w = w' := by
  by_cases h1 : 0 ≤ n
  · rw [show inB n 0 99 = decide (n ≤ 99) from by simp [inB, h1]]
    go_enter Try.func66, Try.ntmps66
    go_wp2
    go_ret
    exact ⟨rfl, rfl⟩
  · have h : n < 0 := by omega
    rw [show inB n 0 99 = false from inB_lo h]
    clear h1
    go_enter Try.func66, Try.ntmps66
    go_wp2
    go_ret
    exact ⟨rfl, rfl⟩
set_option maxRecDepth 100000 in
set_option maxHeartbeats 1000000 in
theorem secretFault_any (x : SecretM) (A : Option Addr) (c : Nat) (w : World) :
    Calls Try.prog 43 #[.agg #[.int .i64 x.Id, .slice A x.Bytes.length c]] w fun e w' => e = .returned (.int .i64 (secF x)) ∧ Below w.heap.size w w' := by
  obtain ⟨b, hb⟩ : ∃ b, inB x.Id 0 99 = b := ⟨_, rfl⟩
  have B1 := bal (Below.refl w.heap.size w) (.cells #[.int .i64 x.Id, .slice A x.Bytes.length c] 58)
  cases b
  · rw [secF_id hb]
    go_enter Try.func43, Try.ntmps43
    go_wp2_with (first | (go_at_call 66; refine (isId_any _ _).mono ?_; rintro e w' ⟨rfl, rfl⟩))
    go_ret
    exact ⟨rfl, B1⟩
  · rw [secF_in hb]
    by_cases hl : x.Bytes.length ≤ 40
    · rw [if_pos hl]
      have hl' : ¬ (40 : Int) < (x.Bytes.length : Int) := by omega
      clear hl
      go_enter Try.func43, Try.ntmps43
      go_wp2_with (first | (go_at_call 66; refine (isId_any _ _).mono ?_; rintro e w' ⟨rfl, rfl⟩))
      go_ret
      exact ⟨rfl, B1⟩
    · rw [if_neg hl]
      have hl' : (40 : Int) < (x.Bytes.length : Int) := by omega
      clear hl
      go_enter Try.func43, Try.ntmps43
      go_wp2_with (first | (go_at_call 66; refine (isId_any _ _).mono ?_; rintro e w' ⟨rfl, rfl⟩))
      go_ret
      exact ⟨rfl, B1⟩
end Go.Proofs.Ytjjileefdjjijaa
