/- The model's words of SHA-256: l2Xor, l2And, l2Small, l2Big. -/
import Derived.Test.YtncnibkojneejaaGreatDoorJa5
namespace Go.Proofs.YtncnibkojneejaaGreatDoor
open Go.RowKit

theorem bit_div (x k : Nat) : x / 2 ^ k % 2 = (x.testBit k).toNat := by
  rw [Nat.testBit_eq_decide_div_mod_eq]
  have : x / 2 ^ k % 2 < 2 := Nat.mod_lt _ (by omega)
  by_cases h : x / 2 ^ k % 2 = 1
  · simp [h]
  · have h0 : x / 2 ^ k % 2 = 0 := by omega
    simp [h0]
theorem powI_nat (k : Nat) : powI k = ((2 ^ k : Nat) : Int) := by simp [powI]
theorem powI_succ (k : Nat) : powI k * 2 = powI (k + 1) := by simp [powI, Int.pow_succ]
theorem div_bit (a k : Nat) : ((a : Int) / powI k) % 2 = (((a.testBit k).toNat : Nat) : Int) := by
  rw [powI_nat, ← bit_div]; omega
theorem xor_step (a b k : Nat) : (a ^^^ b) % 2 ^ (k + 1) = (a ^^^ b) % 2 ^ k + (if a.testBit k = b.testBit k then 0 else 2 ^ k) := by
  rw [Nat.mod_pow_succ, bit_div, Nat.testBit_xor]
  cases a.testBit k <;> cases b.testBit k <;> simp
theorem and_step (a b k : Nat) : (a &&& b) % 2 ^ (k + 1) = (a &&& b) % 2 ^ k + (if a.testBit k = true ∧ b.testBit k = true then 2 ^ k else 0) := by
  rw [Nat.mod_pow_succ, bit_div, Nat.testBit_and]
  cases a.testBit k <;> cases b.testBit k <;> simp
theorem powI_32 (k : Nat) (h : k ≤ 32) : 1 ≤ powI k ∧ powI k ≤ 4294967296 := by
  have h1 : (2 : Nat) ^ k ≤ 2 ^ 32 := Nat.pow_le_pow_right (by decide) h
  have h2 : 0 < (2 : Nat) ^ k := Nat.two_pow_pos k
  rw [powI_nat]; omega
theorem powI_lt32 (k : Nat) (h : k < 32) : powI k < 4294967296 := by
  have h1 : (2 : Nat) ^ (k + 1) ≤ 2 ^ 32 := Nat.pow_le_pow_right (by decide) h
  have h2 : 0 < (2 : Nat) ^ k := Nat.two_pow_pos k
  rw [Nat.pow_succ] at h1
  rw [powI_nat]; omega
theorem xor_lt (a b : Nat) (ha : a < 4294967296) (hb : b < 4294967296) : a ^^^ b < 4294967296 := Nat.xor_lt_two_pow (n := 32) ha hb
theorem and_lt (a b : Nat) (hb : b < 4294967296) : a &&& b < 4294967296 := Nat.and_lt_two_pow (n := 32) _ hb
theorem div_bd (a : Nat) (p : Int) (ha : a < 4294967296) (hp : 1 ≤ p) : 0 ≤ (a : Int) / p ∧ (a : Int) / p ≤ 4294967295 := by
  have h1 : 0 ≤ (a : Int) / p := Int.ediv_nonneg (by omega) (by omega)
  have h2 : (a : Int) / p ≤ (a : Int) := Int.ediv_le_self _ (by omega)
  omega
def xorV (a b k : Nat) : Nat := (a ^^^ b) % 2 ^ k
def andV (a b k : Nat) : Nat := (a &&& b) % 2 ^ k
theorem xorV_bd (a b k : Nat) (hk : k ≤ 32) : (xorV a b k : Int) ≤ 4294967295 := by
  have h : xorV a b k < 2 ^ k := Nat.mod_lt _ (Nat.two_pow_pos k)
  have h1 : (2 : Nat) ^ k ≤ 2 ^ 32 := Nat.pow_le_pow_right (by decide) hk
  omega
theorem andV_bd (a b k : Nat) (hk : k ≤ 32) : (andV a b k : Int) ≤ 4294967295 := by
  have h : andV a b k < 2 ^ k := Nat.mod_lt _ (Nat.two_pow_pos k)
  have h1 : (2 : Nat) ^ k ≤ 2 ^ 32 := Nat.pow_le_pow_right (by decide) hk
  omega
theorem xorV_ne (a b k : Nat) (h : ¬ a.testBit k = b.testBit k) : (xorV a b k : Int) + powI k = (xorV a b (k + 1) : Int) := by
  rw [xorV, xorV, xor_step, if_neg h, powI_nat]; omega
theorem xorV_eq (a b k : Nat) (h : a.testBit k = b.testBit k) : xorV a b k = xorV a b (k + 1) := by
  rw [xorV, xorV, xor_step, if_pos h]; rfl
theorem andV_ne (a b k : Nat) (h : a.testBit k = true ∧ b.testBit k = true) : (andV a b k : Int) + powI k = (andV a b (k + 1) : Int) := by
  rw [andV, andV, and_step, if_pos h, powI_nat]; omega
theorem andV_eq (a b k : Nat) (h : ¬ (a.testBit k = true ∧ b.testBit k = true)) : andV a b k = andV a b (k + 1) := by
  rw [andV, andV, and_step, if_neg h]; rfl

/-- The number comes back; only draws. -/
def NR (w : World) (v : Int) (e : Ending) (w' : World) : Prop := e = .returned (.int .i64 v) ∧ ∃ k, w.drewN k = w'
set_option maxRecDepth 100000 in
set_option maxHeartbeats 1000000 in
theorem xor_any (a b : Nat) (w : World) (ha : a < 4294967296) (hb : b < 4294967296) :
    Calls Tryz.prog 88 #[.int .i64 a, .int .i64 b] w (NR w ((a ^^^ b : Nat) : Int)) := by
  go_enter Tryz.func88, Tryz.ntmps88
  go_wp2
  go_loopw [5, 6] (fun o p wr => ∃ k n : Nat, k ≤ 32 ∧ o = .int .i64 (xorV a b k) ∧ p = .int .i64 (powI k) ∧ wr = w.drewN n) (fun _ p _ => (4294967296 - intOf p).toNat)
  case atStart => exact ⟨0, 0, by omega, by simp [xorV, Nat.mod_one], by simp [powI], rfl⟩
  case round =>
    obtain ⟨k, n, hk, rfl, rfl, rfl⟩ := hrel
    obtain ⟨p1, p2⟩ := powI_32 k hk
    have o1 := xorV_bd a b k hk
    by_cases hlt : k < 32
    · have p3 := powI_lt32 k hlt
      have d1 := div_bit a k
      have d2 := div_bit b k
      have s1 := powI_succ k
      have S := hidH s1
      clear s1
      obtain ⟨a1, a2⟩ := div_bd a (powI k) (by omega) p1
      obtain ⟨b1, b2⟩ := div_bd b (powI k) (by omega) p1
      by_cases hbit : a.testBit k = b.testBit k
      · have X := hidH (xorV_eq a b k hbit)
        have hd : (((a : Int) / powI k) % 2 != ((b : Int) / powI k) % 2) = false := by rw [d1, d2, hbit]; simp
        clear d1 d2 hbit
        go_wp2
        go_quiet (fail)
        go_wp2
        go_roundw
        case rel => exact ⟨k + 1, n + nq, by omega, by rw [X.out], by rw [S.out], rfl⟩
        case measure => simp [intOf]; omega
      · have X := hidH (xorV_ne a b k hbit)
        have hd : (((a : Int) / powI k) % 2 != ((b : Int) / powI k) % 2) = true := by
          rw [d1, d2]
          revert hbit
          cases a.testBit k <;> cases b.testBit k <;> simp
        clear d1 d2 hbit
        go_wp2
        go_quiet (fail)
        go_wp2
        go_roundw
        case rel => exact ⟨k + 1, n + nq, by omega, by rw [X.out], by rw [S.out], rfl⟩
        case measure => simp [intOf]; omega
    · obtain rfl : k = 32 := by omega
      have p3 : 4294967296 ≤ powI 32 := by decide
      have X : xorV a b 32 = a ^^^ b := Nat.mod_eq_of_lt (xor_lt a b ha hb)
      have XH := hidH X
      clear X hlt
      go_wp2
      go_ret
      exact ⟨ret_int (by rw [XH.out]), n, rfl⟩
set_option maxRecDepth 100000 in
set_option maxHeartbeats 1000000 in
theorem and_any (a b : Nat) (w : World) (ha : a < 4294967296) (hb : b < 4294967296) :
    Calls Tryz.prog 89 #[.int .i64 a, .int .i64 b] w fun e w' => e = .returned (.int .i64 ((a &&& b : Nat) : Int)) ∧ w = w' := by
  go_enter Tryz.func89, Tryz.ntmps89
  go_wp2
  go_loop [5, 6] (fun o p => ∃ k : Nat, k ≤ 32 ∧ o = .int .i64 (andV a b k) ∧ p = .int .i64 (powI k)) (fun _ p => (4294967296 - intOf p).toNat)
  case atStart => exact ⟨0, by omega, by simp [andV, Nat.mod_one], by simp [powI]⟩
  case round =>
    obtain ⟨k, hk, rfl, rfl⟩ := hrel
    obtain ⟨p1, p2⟩ := powI_32 k hk
    have o1 := andV_bd a b k hk
    by_cases hlt : k < 32
    · have p3 := powI_lt32 k hlt
      have d1 := div_bit a k
      have d2 := div_bit b k
      have s1 := powI_succ k
      have S := hidH s1
      clear s1
      obtain ⟨a1, a2⟩ := div_bd a (powI k) (by omega) p1
      obtain ⟨b1, b2⟩ := div_bd b (powI k) (by omega) p1
      by_cases ta : a.testBit k = true
      · have hd1 : (((a : Int) / powI k) % 2 == 1) = true := by rw [d1, ta]; rfl
        by_cases tb : b.testBit k = true
        · have hd2 : (((b : Int) / powI k) % 2 == 1) = true := by rw [d2, tb]; rfl
          have X := hidH (andV_ne a b k ⟨ta, tb⟩)
          clear d1 d2 ta tb
          go_wp2
          go_round
          case rel => exact ⟨k + 1, by omega, by rw [X.out], by rw [S.out]⟩
          case measure => simp [intOf]; omega
        · have hd2 : (((b : Int) / powI k) % 2 == 1) = false := by rw [d2]; simp at tb; rw [tb]; rfl
          have X := hidH (andV_eq a b k (fun h => tb h.2))
          clear d1 d2 ta tb
          go_wp2
          go_round
          case rel => exact ⟨k + 1, by omega, by rw [X.out], by rw [S.out]⟩
          case measure => simp [intOf]; omega
      · have hd1 : (((a : Int) / powI k) % 2 == 1) = false := by rw [d1]; simp at ta; rw [ta]; rfl
        have X := hidH (andV_eq a b k (fun h => ta h.1))
        clear d1 d2 ta
        go_wp2
        go_round
        case rel => exact ⟨k + 1, by omega, by rw [X.out], by rw [S.out]⟩
        case measure => simp [intOf]; omega
    · obtain rfl : k = 32 := by omega
      have p3 : 4294967296 ≤ powI 32 := by decide
      have X : andV a b 32 = a &&& b := Nat.mod_eq_of_lt (and_lt a b hb)
      have XH := hidH X
      clear X hlt
      go_wp2
      go_ret
      exact ⟨ret_int (by rw [XH.out]), rfl⟩
/-- s0, s1 of the schedule; S0, S1 of the rounds. -/
def smallN (x a b c : Nat) : Nat := (rotN x a ^^^ rotN x b) ^^^ (x / 2 ^ c)
def bigN (x a b c : Nat) : Nat := (rotN x a ^^^ rotN x b) ^^^ rotN x c
theorem smallN_lt (x a b c : Nat) (hx : x < 4294967296) (ha : a ≤ 32) (hb : b ≤ 32) : smallN x a b c < 4294967296 :=
  xor_lt _ _ (xor_lt _ _ (rotN_lt x a hx ha) (rotN_lt x b hx hb)) (Nat.lt_of_le_of_lt (Nat.div_le_self _ _) hx)
theorem bigN_lt (x a b c : Nat) (hx : x < 4294967296) (ha : a ≤ 32) (hb : b ≤ 32) (hc : c ≤ 32) : bigN x a b c < 4294967296 :=
  xor_lt _ _ (xor_lt _ _ (rotN_lt x a hx ha) (rotN_lt x b hx hb)) (rotN_lt x c hx hc)
set_option maxHeartbeats 1000000 in
theorem small_any (x a b c : Nat) (w : World) (hx : x < 4294967296) (ha : a ≤ 31) (hb : b ≤ 31) (hc : c ≤ 31) :
    Calls Tryz.prog 100 #[.int .i64 x, .int .i64 a, .int .i64 b, .int .i64 c] w (NR w ((smallN x a b c : Nat) : Int)) := by
  have r1 := rotN_lt x a hx (by omega)
  have r2 := rotN_lt x b hx (by omega)
  have r3 := xor_lt _ _ r1 r2
  have r4 : x / 2 ^ c < 4294967296 := Nat.lt_of_le_of_lt (Nat.div_le_self _ _) hx
  have e : (x : Int) / powI c = ((x / 2 ^ c : Nat) : Int) := by rw [powI_nat]; omega
  obtain ⟨p1, p2⟩ := powI_bd c hc
  obtain ⟨a1, a2⟩ := div_bd x (powI c) hx p1
  have E := hidH e
  clear e
  go_enter Tryz.func100, Tryz.ntmps100
  go_wp2_with fail
  refine (l1Rot_any x a _ (by omega) ha).mono ?_
  rintro e w1 ⟨rfl, n1, rfl⟩
  go_wp2_with fail
  refine (l1Rot_any x b _ (by omega) hb).mono ?_
  rintro e w2 ⟨rfl, n2, rfl⟩
  go_wp2_with fail
  refine (xor_any _ _ _ r1 r2).mono ?_
  rintro e w3 ⟨rfl, n3, rfl⟩
  go_wp2_with fail
  refine (pow_any c _ hc).mono ?_
  rintro e w4 ⟨rfl, rfl⟩
  go_wp2_with fail
  rw [E.out]
  refine (xor_any _ _ _ r3 r4).mono ?_
  rintro e w5 ⟨rfl, n5, rfl⟩
  go_wp2
  go_ret
  exact ⟨rfl, _, rfl⟩
set_option maxHeartbeats 1000000 in
theorem big2_any (x a b c : Nat) (w : World) (hx : x < 4294967296) (ha : a ≤ 31) (hb : b ≤ 31) (hc : c ≤ 31) :
    Calls Tryz.prog 91 #[.int .i64 x, .int .i64 a, .int .i64 b, .int .i64 c] w (NR w ((bigN x a b c : Nat) : Int)) := by
  have r1 := rotN_lt x a hx (by omega)
  have r2 := rotN_lt x b hx (by omega)
  have r3 := xor_lt _ _ r1 r2
  have r4 := rotN_lt x c hx (by omega)
  go_enter Tryz.func91, Tryz.ntmps91
  go_wp2_with fail
  refine (l1Rot_any x a _ (by omega) ha).mono ?_
  rintro e w1 ⟨rfl, n1, rfl⟩
  go_wp2_with fail
  refine (l1Rot_any x b _ (by omega) hb).mono ?_
  rintro e w2 ⟨rfl, n2, rfl⟩
  go_wp2_with fail
  refine (xor_any _ _ _ r1 r2).mono ?_
  rintro e w3 ⟨rfl, n3, rfl⟩
  go_wp2_with fail
  refine (l1Rot_any x c _ (by omega) hc).mono ?_
  rintro e w4 ⟨rfl, n4, rfl⟩
  go_wp2_with fail
  refine (xor_any _ _ _ r3 r4).mono ?_
  rintro e w5 ⟨rfl, n5, rfl⟩
  go_wp2
  go_ret
  exact ⟨rfl, _, rfl⟩
end Go.Proofs.YtncnibkojneejaaGreatDoor
