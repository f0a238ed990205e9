import Derived.Test.YtacdnednkglobaaGreatDoorLess
import Derived.Deep.QuietTactic
import Derived.BigQuiet
import Derived.IntWalk
import Derived.Test.YtacdnednkglobaaGreatDoorAt
import Derived.Test.YtacdnednkglobaaGreatDoorInts
import Derived.Test.YtacdnednkglobaaGreatDoorSome
import Derived.Deep.RegionLaw
import Derived.Deep.AppendLies

/- What RotateWord answers, the program's and the model's: the word turned right by n bits. No condition. -/
namespace Go.Proofs.YtacdnednkglobaaGreatDoor
open Go.RowKit

def rotN (x n : Nat) : Nat := x / 2 ^ n + x % 2 ^ n * 2 ^ (32 - n)
def rotC (x n : Int) : Int := if IsW x ∧ 0 ≤ n ∧ n ≤ 31 then 0 else 3
def rotV (x n : Int) : Int := if IsW x ∧ 0 ≤ n ∧ n ≤ 31 then (rotN x.toNat n.toNat : Int) else 0

theorem and31 : ∀ k : Fin 32, bits BinOp.and IntKind.u64 (IntKind.u64.wrap (-(k.val : Int))) 31 = (((32 - k.val) % 32 : Nat) : Int) := by decide +kernel
theorem and31n (n : Int) (h3 : 1 ≤ n) (h4 : n ≤ 31) : bits BinOp.and IntKind.u64 (IntKind.u64.wrap (-n)) 31 = 32 - n := by
  obtain ⟨k, rfl⟩ : ∃ k : Nat, n = k := ⟨n.toNat, by omega⟩
  have := and31 ⟨k, by omega⟩
  simp only at this
  rw [this]
  omega
theorem pow_split (n : Nat) (hn : n ≤ 32) : 4294967296 = 2 ^ n * 2 ^ (32 - n) := by
  rw [← Nat.pow_add, show n + (32 - n) = 32 from by omega]
theorem rotN_lt (x n : Nat) (hx : x < 4294967296) (hn : n ≤ 32) : rotN x n < 4294967296 := by
  have e := pow_split n hn
  have h2 : 0 < 2 ^ n := Nat.two_pow_pos n
  have h3 : x / 2 ^ n < 2 ^ (32 - n) := by rw [Nat.div_lt_iff_lt_mul h2, Nat.mul_comm, ← e]; exact hx
  have h4 : x % 2 ^ n + 1 ≤ 2 ^ n := Nat.mod_lt _ h2
  have h5 := Nat.mul_le_mul_right (2 ^ (32 - n)) h4
  rw [← e, Nat.add_mul] at h5
  unfold rotN
  omega
theorem or_rot (x n : Nat) (hx : x < 4294967296) (h1 : n ≤ 32) :
    bits BinOp.or IntKind.u32 (((x * 2 ^ (32 - n) % 4294967296 : Nat)) : Int) ((x / 2 ^ n : Nat) : Int) = (rotN x n : Int) := by
  have e := pow_split n h1
  have h2 : 0 < 2 ^ n := Nat.two_pow_pos n
  have h3 : x / 2 ^ n < 2 ^ (32 - n) := by rw [Nat.div_lt_iff_lt_mul h2, Nat.mul_comm, ← e]; exact hx
  have h4 : x / 2 ^ n ≤ x := Nat.div_le_self _ _
  have h5 : x * 2 ^ (32 - n) % 4294967296 < 4294967296 := Nat.mod_lt _ (by decide)
  rw [u32_or_nat _ _ h5 (by omega)]
  have h6 : x * 2 ^ (32 - n) % 4294967296 = 2 ^ (32 - n) * (x % 2 ^ n) := by rw [e, Nat.mul_mod_mul_right, Nat.mul_comm]
  rw [h6, ← Nat.two_pow_add_eq_or_of_lt h3, rotN, Nat.add_comm, Nat.mul_comm]

set_option maxHeartbeats 400000 in
theorem rotl_any (x n : Int) (w : World) (h1 : 0 ≤ x) (h2 : x ≤ 4294967295) (h3 : 0 ≤ n) (h4 : n ≤ 31) :
    Calls Tryz.prog 193 #[.int .u32 x, .int .i64 (-n)] w fun e w' => e = .returned (.int .u32 (rotN x.toNat n.toNat)) ∧ w = w' := by
  by_cases h0 : n = 0
  · subst h0
    have e : (rotN x.toNat (0 : Int).toNat : Int) = x := by simp [rotN, Nat.mod_one]; omega
    rw [e]
    clear e
    have hs : bits BinOp.and IntKind.u64 0 31 = 0 := by decide
    go_enter Tryz.func193, Tryz.ntmps193
    go_wp2
    go_ret
    refine ⟨ret_int ?_, rfl⟩
    rw [show x / 4294967296 = 0 from by omega, u32_or x 0 h1 (by omega) (by omega) (by omega)]
    simp; omega
  · have hs := and31n n (by omega) h4
    obtain ⟨X, rfl⟩ : ∃ X : Nat, x = X := ⟨x.toNat, by omega⟩
    obtain ⟨k, rfl⟩ : ∃ k : Nat, n = k := ⟨n.toNat, by omega⟩
    have hv := or_rot X k (by omega) (by omega)
    have H := hidH hv
    clear hv
    go_enter Tryz.func193, Tryz.ntmps193
    go_wp2
    go_ret
    refine ⟨ret_int ?_, rfl⟩
    have hv := H.out
    rw [show (32 - (32 - k)) = k from by omega]
    simpa using hv
theorem two_step (n m : Nat) (h : m + 1 ≤ n) : (2 : Int) ^ (n - (m + 1)) * 2 = 2 ^ (n - m) := by
  rw [show n - m = (n - (m + 1)) + 1 from by omega, Int.pow_succ]
theorem two_le (k : Nat) (h : k ≤ 31) : (1 : Int) ≤ 2 ^ k ∧ (2 : Int) ^ k ≤ 2147483648 := by
  have h1 : (2 : Nat) ^ k ≤ 2 ^ 31 := Nat.pow_le_pow_right (by decide) h
  have h2 : 0 < (2 : Nat) ^ k := Nat.two_pow_pos k
  have e : ((2 ^ k : Nat) : Int) = (2 : Int) ^ k := by simp
  omega
def powI (k : Nat) : Int := 2 ^ k
theorem powI_bd (k : Nat) (h : k ≤ 31) : 1 ≤ powI k ∧ powI k ≤ 2147483648 := two_le k h
theorem powI_step (n m : Nat) (h : m + 1 ≤ n) : powI (n - (m + 1)) * 2 = powI (n - m) := two_step n m h
set_option maxHeartbeats 400000 in
theorem pow_any (n : Nat) (w : World) (hn : n ≤ 31) :
    Calls Tryz.prog 191 #[.int .i64 n] w fun e w' => e = .returned (.int .i64 (powI n)) ∧ w = w' := by
  go_enter Tryz.func191, Tryz.ntmps191
  go_wp2
  go_loop [0, 3] (fun i p => ∃ m : Nat, m ≤ n ∧ i = .int .i64 m ∧ p = .int .i64 (powI (n - m))) (fun i _ => (intOf i).toNat)
  case atStart => exact ⟨n, Nat.le_refl _, rfl, by simp [powI]⟩
  case round =>
    obtain ⟨m, hm, rfl, rfl⟩ := hrel
    have hb := powI_bd (n - m) (by omega)
    obtain ⟨hb1, hb2⟩ := hb
    rcases m with _ | m
    · go_wp2
      go_ret
      exact ⟨rfl, rfl⟩
    · have hs := powI_step n m hm
      have H := hidH hs
      clear hs
      have hgt : (0 : Int) < ((m + 1 : Nat) : Int) := by omega
      go_wp2
      go_round
      case rel => exact ⟨m, by omega, rfl, by rw [H.out]⟩
      case measure => simp [intOf]
theorem rot_wrap (x n : Nat) (hx : x ≤ 4294967295) (hn : n ≤ 31) :
    wrap64 (wrap64 ((x : Int) / powI n) + wrap64 ((x : Int) % powI n * (4294967296 / powI n))) = (rotN x n : Int) := by
  have e := pow_split n (by omega)
  have hp : powI n = ((2 ^ n : Nat) : Int) := by simp [powI]
  have h2 : 0 < 2 ^ n := Nat.two_pow_pos n
  have hq : (4294967296 : Int) / powI n = ((2 ^ (32 - n) : Nat) : Int) := by
    rw [hp, show (4294967296 : Int) = ((4294967296 : Nat) : Int) from rfl, ← Int.natCast_ediv]
    congr 1
    rw [e, Nat.mul_comm, Nat.mul_div_cancel _ h2]
  have hd : (x : Int) / powI n = ((x / 2 ^ n : Nat) : Int) := by rw [hp, ← Int.natCast_ediv]
  have hm : (x : Int) % powI n = ((x % 2 ^ n : Nat) : Int) := by rw [hp, ← Int.natCast_emod]
  have hl := rotN_lt x n (by omega) (by omega)
  rw [hq, hd, hm, ← Int.natCast_mul]
  unfold rotN at hl ⊢
  generalize x / 2 ^ n = a at *
  generalize x % 2 ^ n * 2 ^ (32 - n) = b at *
  rw [IntWalk.wrap64_in (a : Int) (by omega), IntWalk.wrap64_in (b : Int) (by omega), IntWalk.wrap64_in ((a : Int) + b) (by omega)]
  omega
set_option maxHeartbeats 400000 in
theorem l1Rot_any (x n : Nat) (w : World) (hx : x ≤ 4294967295) (hn : n ≤ 31) :
    Calls Tryz.prog 184 #[.int .i64 x, .int .i64 n] w fun e w' => e = .returned (.int .i64 (rotN x n)) ∧ ∃ k, w.drewN k = w' := by
  have hb := powI_bd n hn
  obtain ⟨hb1, hb2⟩ := hb
  go_enter Tryz.func184, Tryz.ntmps184
  go_wp2_with (go_at_call 191; refine (pow_any _ _ hn).mono ?_; rintro e w' ⟨rfl, rfl⟩)
  go_quiet (fail)
  go_wp2
  go_ret
  exact ⟨ret_int (rot_wrap x n hx hn), _, rfl⟩
set_option maxHeartbeats 400000 in
theorem rotate_any (x n : Int) (w : World) (h1 : 0 ≤ x) (h2 : x ≤ 4294967295) (h3 : 0 ≤ n) (h4 : n ≤ 31) :
    Calls Tryz.prog 192 #[.int .u32 x, .int .i64 n] w fun e w' => e = .returned (.int .u32 (rotN x.toNat n.toNat)) ∧ w = w' := by
  have hl := rotN_lt x.toNat n.toNat (by omega) (by omega)
  have hl2 : (rotN x.toNat n.toNat : Int) ≤ 4294967295 := by omega
  clear hl
  go_enter Tryz.func192, Tryz.ntmps192
  go_wp2_with (go_at_call 193; refine (rotl_any _ _ _ h1 h2 h3 h4).mono ?_; rintro e w' ⟨rfl, rfl⟩)
  exact bodyPost_ret (v := .int .u32 (rotN x.toNat n.toNat)) (by simp [results, Tryz.results192, go_sem]) rfl ⟨rfl, rfl⟩
end Go.Proofs.YtacdnednkglobaaGreatDoor

/- The model's words of SHA-256: l2Xor, l2And, l2Small, l2Big. -/
namespace Go.Proofs.YtacdnednkglobaaGreatDoor
open Go.RowKit

theorem bit_div (x k : Nat) : x / 2 ^ k % 2 = (x.testBit k).toNat := by
  rw [Nat.testBit_eq_decide_div_mod_eq]
  have : x / 2 ^ k % 2 < 2 := Nat.mod_lt _ (by omega)
  by_cases h : x / 2 ^ k % 2 = 1
  · simp [h]
  · have h0 : x / 2 ^ k % 2 = 0 := by omega
    simp [h0]
theorem powI_nat (k : Nat) : powI k = ((2 ^ k : Nat) : Int) := by simp [powI]
theorem powI_succ (k : Nat) : powI k * 2 = powI (k + 1) := by simp [powI, Int.pow_succ]
theorem div_bit (a k : Nat) : ((a : Int) / powI k) % 2 = (((a.testBit k).toNat : Nat) : Int) := by
  rw [powI_nat, ← bit_div]; omega
theorem xor_step (a b k : Nat) : (a ^^^ b) % 2 ^ (k + 1) = (a ^^^ b) % 2 ^ k + (if a.testBit k = b.testBit k then 0 else 2 ^ k) := by
  rw [Nat.mod_pow_succ, bit_div, Nat.testBit_xor]
  cases a.testBit k <;> cases b.testBit k <;> simp
theorem and_step (a b k : Nat) : (a &&& b) % 2 ^ (k + 1) = (a &&& b) % 2 ^ k + (if a.testBit k = true ∧ b.testBit k = true then 2 ^ k else 0) := by
  rw [Nat.mod_pow_succ, bit_div, Nat.testBit_and]
  cases a.testBit k <;> cases b.testBit k <;> simp
theorem powI_32 (k : Nat) (h : k ≤ 32) : 1 ≤ powI k ∧ powI k ≤ 4294967296 := by
  have h1 : (2 : Nat) ^ k ≤ 2 ^ 32 := Nat.pow_le_pow_right (by decide) h
  have h2 : 0 < (2 : Nat) ^ k := Nat.two_pow_pos k
  rw [powI_nat]; omega
theorem powI_lt32 (k : Nat) (h : k < 32) : powI k < 4294967296 := by
  have h1 : (2 : Nat) ^ (k + 1) ≤ 2 ^ 32 := Nat.pow_le_pow_right (by decide) h
  have h2 : 0 < (2 : Nat) ^ k := Nat.two_pow_pos k
  rw [Nat.pow_succ] at h1
  rw [powI_nat]; omega
theorem xor_lt (a b : Nat) (ha : a < 4294967296) (hb : b < 4294967296) : a ^^^ b < 4294967296 := Nat.xor_lt_two_pow (n := 32) ha hb
theorem and_lt (a b : Nat) (hb : b < 4294967296) : a &&& b < 4294967296 := Nat.and_lt_two_pow (n := 32) _ hb
theorem div_bd (a : Nat) (p : Int) (ha : a < 4294967296) (hp : 1 ≤ p) : 0 ≤ (a : Int) / p ∧ (a : Int) / p ≤ 4294967295 := by
  have h1 : 0 ≤ (a : Int) / p := Int.ediv_nonneg (by omega) (by omega)
  have h2 : (a : Int) / p ≤ (a : Int) := Int.ediv_le_self _ (by omega)
  omega
def xorV (a b k : Nat) : Nat := (a ^^^ b) % 2 ^ k
def andV (a b k : Nat) : Nat := (a &&& b) % 2 ^ k
theorem xorV_bd (a b k : Nat) (hk : k ≤ 32) : (xorV a b k : Int) ≤ 4294967295 := by
  have h : xorV a b k < 2 ^ k := Nat.mod_lt _ (Nat.two_pow_pos k)
  have h1 : (2 : Nat) ^ k ≤ 2 ^ 32 := Nat.pow_le_pow_right (by decide) hk
  omega
theorem andV_bd (a b k : Nat) (hk : k ≤ 32) : (andV a b k : Int) ≤ 4294967295 := by
  have h : andV a b k < 2 ^ k := Nat.mod_lt _ (Nat.two_pow_pos k)
  have h1 : (2 : Nat) ^ k ≤ 2 ^ 32 := Nat.pow_le_pow_right (by decide) hk
  omega
theorem xorV_ne (a b k : Nat) (h : ¬ a.testBit k = b.testBit k) : (xorV a b k : Int) + powI k = (xorV a b (k + 1) : Int) := by
  rw [xorV, xorV, xor_step, if_neg h, powI_nat]; omega
theorem xorV_eq (a b k : Nat) (h : a.testBit k = b.testBit k) : xorV a b k = xorV a b (k + 1) := by
  rw [xorV, xorV, xor_step, if_pos h]; rfl
theorem andV_ne (a b k : Nat) (h : a.testBit k = true ∧ b.testBit k = true) : (andV a b k : Int) + powI k = (andV a b (k + 1) : Int) := by
  rw [andV, andV, and_step, if_pos h, powI_nat]; omega
theorem andV_eq (a b k : Nat) (h : ¬ (a.testBit k = true ∧ b.testBit k = true)) : andV a b k = andV a b (k + 1) := by
  rw [andV, andV, and_step, if_neg h]; rfl

/-- The number comes back; only draws. -/
def NR (w : World) (v : Int) (e : Ending) (w' : World) : Prop := e = .returned (.int .i64 v) ∧ ∃ k, w.drewN k = w'
set_option maxRecDepth 100000 in
set_option maxHeartbeats 1000000 in
theorem xor_any (a b : Nat) (w : World) (ha : a < 4294967296) (hb : b < 4294967296) :
    Calls Tryz.prog 171 #[.int .i64 a, .int .i64 b] w (NR w ((a ^^^ b : Nat) : Int)) := by
  go_enter Tryz.func171, Tryz.ntmps171
  go_wp2
  go_loopw [5, 6] (fun o p wr => ∃ k n : Nat, k ≤ 32 ∧ o = .int .i64 (xorV a b k) ∧ p = .int .i64 (powI k) ∧ wr = w.drewN n) (fun _ p _ => (4294967296 - intOf p).toNat)
  case atStart => exact ⟨0, 0, by omega, by simp [xorV, Nat.mod_one], by simp [powI], rfl⟩
  case round =>
    obtain ⟨k, n, hk, rfl, rfl, rfl⟩ := hrel
    obtain ⟨p1, p2⟩ := powI_32 k hk
    have o1 := xorV_bd a b k hk
    by_cases hlt : k < 32
    · have p3 := powI_lt32 k hlt
      have d1 := div_bit a k
      have d2 := div_bit b k
      have s1 := powI_succ k
      have S := hidH s1
      clear s1
      obtain ⟨a1, a2⟩ := div_bd a (powI k) (by omega) p1
      obtain ⟨b1, b2⟩ := div_bd b (powI k) (by omega) p1
      by_cases hbit : a.testBit k = b.testBit k
      · have X := hidH (xorV_eq a b k hbit)
        have hd : (((a : Int) / powI k) % 2 != ((b : Int) / powI k) % 2) = false := by rw [d1, d2, hbit]; simp
        clear d1 d2 hbit
        go_wp2
        go_quiet (fail)
        go_wp2
        go_roundw
        case rel => exact ⟨k + 1, n + nq, by omega, by rw [X.out], by rw [S.out], rfl⟩
        case measure => simp [intOf]; omega
      · have X := hidH (xorV_ne a b k hbit)
        have hd : (((a : Int) / powI k) % 2 != ((b : Int) / powI k) % 2) = true := by
          rw [d1, d2]
          revert hbit
          cases a.testBit k <;> cases b.testBit k <;> simp
        clear d1 d2 hbit
        go_wp2
        go_quiet (fail)
        go_wp2
        go_roundw
        case rel => exact ⟨k + 1, n + nq, by omega, by rw [X.out], by rw [S.out], rfl⟩
        case measure => simp [intOf]; omega
    · obtain rfl : k = 32 := by omega
      have p3 : 4294967296 ≤ powI 32 := by decide
      have X : xorV a b 32 = a ^^^ b := Nat.mod_eq_of_lt (xor_lt a b ha hb)
      have XH := hidH X
      clear X hlt
      go_wp2
      go_ret
      exact ⟨ret_int (by rw [XH.out]), n, rfl⟩
set_option maxRecDepth 100000 in
set_option maxHeartbeats 1000000 in
theorem and_any (a b : Nat) (w : World) (ha : a < 4294967296) (hb : b < 4294967296) :
    Calls Tryz.prog 172 #[.int .i64 a, .int .i64 b] w fun e w' => e = .returned (.int .i64 ((a &&& b : Nat) : Int)) ∧ w = w' := by
  go_enter Tryz.func172, Tryz.ntmps172
  go_wp2
  go_loop [5, 6] (fun o p => ∃ k : Nat, k ≤ 32 ∧ o = .int .i64 (andV a b k) ∧ p = .int .i64 (powI k)) (fun _ p => (4294967296 - intOf p).toNat)
  case atStart => exact ⟨0, by omega, by simp [andV, Nat.mod_one], by simp [powI]⟩
  case round =>
    obtain ⟨k, hk, rfl, rfl⟩ := hrel
    obtain ⟨p1, p2⟩ := powI_32 k hk
    have o1 := andV_bd a b k hk
    by_cases hlt : k < 32
    · have p3 := powI_lt32 k hlt
      have d1 := div_bit a k
      have d2 := div_bit b k
      have s1 := powI_succ k
      have S := hidH s1
      clear s1
      obtain ⟨a1, a2⟩ := div_bd a (powI k) (by omega) p1
      obtain ⟨b1, b2⟩ := div_bd b (powI k) (by omega) p1
      by_cases ta : a.testBit k = true
      · have hd1 : (((a : Int) / powI k) % 2 == 1) = true := by rw [d1, ta]; rfl
        by_cases tb : b.testBit k = true
        · have hd2 : (((b : Int) / powI k) % 2 == 1) = true := by rw [d2, tb]; rfl
          have X := hidH (andV_ne a b k ⟨ta, tb⟩)
          clear d1 d2 ta tb
          go_wp2
          go_round
          case rel => exact ⟨k + 1, by omega, by rw [X.out], by rw [S.out]⟩
          case measure => simp [intOf]; omega
        · have hd2 : (((b : Int) / powI k) % 2 == 1) = false := by rw [d2]; simp at tb; rw [tb]; rfl
          have X := hidH (andV_eq a b k (fun h => tb h.2))
          clear d1 d2 ta tb
          go_wp2
          go_round
          case rel => exact ⟨k + 1, by omega, by rw [X.out], by rw [S.out]⟩
          case measure => simp [intOf]; omega
      · have hd1 : (((a : Int) / powI k) % 2 == 1) = false := by rw [d1]; simp at ta; rw [ta]; rfl
        have X := hidH (andV_eq a b k (fun h => ta h.1))
        clear d1 d2 ta
        go_wp2
        go_round
        case rel => exact ⟨k + 1, by omega, by rw [X.out], by rw [S.out]⟩
        case measure => simp [intOf]; omega
    · obtain rfl : k = 32 := by omega
      have p3 : 4294967296 ≤ powI 32 := by decide
      have X : andV a b 32 = a &&& b := Nat.mod_eq_of_lt (and_lt a b hb)
      have XH := hidH X
      clear X hlt
      go_wp2
      go_ret
      exact ⟨ret_int (by rw [XH.out]), rfl⟩
/-- s0, s1 of the schedule; S0, S1 of the rounds. -/
def smallN (x a b c : Nat) : Nat := (rotN x a ^^^ rotN x b) ^^^ (x / 2 ^ c)
def bigN (x a b c : Nat) : Nat := (rotN x a ^^^ rotN x b) ^^^ rotN x c
theorem smallN_lt (x a b c : Nat) (hx : x < 4294967296) (ha : a ≤ 32) (hb : b ≤ 32) : smallN x a b c < 4294967296 :=
  xor_lt _ _ (xor_lt _ _ (rotN_lt x a hx ha) (rotN_lt x b hx hb)) (Nat.lt_of_le_of_lt (Nat.div_le_self _ _) hx)
theorem bigN_lt (x a b c : Nat) (hx : x < 4294967296) (ha : a ≤ 32) (hb : b ≤ 32) (hc : c ≤ 32) : bigN x a b c < 4294967296 :=
  xor_lt _ _ (xor_lt _ _ (rotN_lt x a hx ha) (rotN_lt x b hx hb)) (rotN_lt x c hx hc)
set_option maxHeartbeats 1000000 in
theorem small_any (x a b c : Nat) (w : World) (hx : x < 4294967296) (ha : a ≤ 31) (hb : b ≤ 31) (hc : c ≤ 31) :
    Calls Tryz.prog 183 #[.int .i64 x, .int .i64 a, .int .i64 b, .int .i64 c] w (NR w ((smallN x a b c : Nat) : Int)) := by
  have r1 := rotN_lt x a hx (by omega)
  have r2 := rotN_lt x b hx (by omega)
  have r3 := xor_lt _ _ r1 r2
  have r4 : x / 2 ^ c < 4294967296 := Nat.lt_of_le_of_lt (Nat.div_le_self _ _) hx
  have e : (x : Int) / powI c = ((x / 2 ^ c : Nat) : Int) := by rw [powI_nat]; omega
  obtain ⟨p1, p2⟩ := powI_bd c hc
  obtain ⟨a1, a2⟩ := div_bd x (powI c) hx p1
  have E := hidH e
  clear e
  go_enter Tryz.func183, Tryz.ntmps183
  go_wp2_with fail
  refine (l1Rot_any x a _ (by omega) ha).mono ?_
  rintro e w1 ⟨rfl, n1, rfl⟩
  go_wp2_with fail
  refine (l1Rot_any x b _ (by omega) hb).mono ?_
  rintro e w2 ⟨rfl, n2, rfl⟩
  go_wp2_with fail
  refine (xor_any _ _ _ r1 r2).mono ?_
  rintro e w3 ⟨rfl, n3, rfl⟩
  go_wp2_with fail
  refine (pow_any c _ hc).mono ?_
  rintro e w4 ⟨rfl, rfl⟩
  go_wp2_with fail
  rw [E.out]
  refine (xor_any _ _ _ r3 r4).mono ?_
  rintro e w5 ⟨rfl, n5, rfl⟩
  go_wp2
  go_ret
  exact ⟨rfl, _, rfl⟩
set_option maxHeartbeats 1000000 in
theorem big2_any (x a b c : Nat) (w : World) (hx : x < 4294967296) (ha : a ≤ 31) (hb : b ≤ 31) (hc : c ≤ 31) :
    Calls Tryz.prog 174 #[.int .i64 x, .int .i64 a, .int .i64 b, .int .i64 c] w (NR w ((bigN x a b c : Nat) : Int)) := by
  have r1 := rotN_lt x a hx (by omega)
  have r2 := rotN_lt x b hx (by omega)
  have r3 := xor_lt _ _ r1 r2
  have r4 := rotN_lt x c hx (by omega)
  go_enter Tryz.func174, Tryz.ntmps174
  go_wp2_with fail
  refine (l1Rot_any x a _ (by omega) ha).mono ?_
  rintro e w1 ⟨rfl, n1, rfl⟩
  go_wp2_with fail
  refine (l1Rot_any x b _ (by omega) hb).mono ?_
  rintro e w2 ⟨rfl, n2, rfl⟩
  go_wp2_with fail
  refine (xor_any _ _ _ r1 r2).mono ?_
  rintro e w3 ⟨rfl, n3, rfl⟩
  go_wp2_with fail
  refine (l1Rot_any x c _ (by omega) hc).mono ?_
  rintro e w4 ⟨rfl, n4, rfl⟩
  go_wp2_with fail
  refine (xor_any _ _ _ r3 r4).mono ?_
  rintro e w5 ⟨rfl, n5, rfl⟩
  go_wp2
  go_ret
  exact ⟨rfl, _, rfl⟩
end Go.Proofs.YtacdnednkglobaaGreatDoor

/- The model's schedule of SHA-256: l2Schedule, as a function on lists of numbers. -/
namespace Go.Proofs.YtacdnednkglobaaGreatDoor
open Go.RowKit Go.Deep

def wv (x : Nat) : Value := .int .i64 x
def wordN (l : List Int) (i : Nat) : Nat := (atW l (4 * i)).toNat
def nextN (ws : List Nat) : Nat :=
  (ws.getD (ws.length - 16) 0 + ws.getD (ws.length - 7) 0 + (smallN (ws.getD (ws.length - 15) 0) 7 18 3 + smallN (ws.getD (ws.length - 2) 0) 17 19 10)) % 4294967296
def schedTo (l : List Int) : Nat → List Nat
  | 0 => (List.range 16).map (wordN l)
  | n + 1 => schedTo l n ++ [nextN (schedTo l n)]
def schedN (l : List Int) : List Nat := schedTo l 48
theorem schedTo_len (l : List Int) (n : Nat) : (schedTo l n).length = 16 + n := by
  induction n with
  | zero => simp [schedTo]
  | succ n ih => simp [schedTo, ih]; omega
def AllW (ws : List Nat) : Prop := ∀ x ∈ ws, x < 4294967296
theorem AllW.get {ws : List Nat} (h : AllW ws) (k : Nat) : ws.getD k 0 < 4294967296 := by
  rw [List.getD_eq_getElem?_getD]
  rcases Nat.lt_or_ge k ws.length with hk | hk
  · rw [List.getElem?_eq_getElem hk]; exact h _ (List.getElem_mem hk)
  · rw [List.getElem?_eq_none hk]; simp
theorem wordN_lt {l : List Int} (hl : Bytes l) (i : Nat) : wordN l i < 4294967296 := by
  obtain ⟨a0, a1⟩ := hl.get (4 * i)
  obtain ⟨b0, b1⟩ := hl.get (4 * i + 1)
  obtain ⟨c0, c1⟩ := hl.get (4 * i + 2)
  obtain ⟨e0, e1⟩ := hl.get (4 * i + 3)
  unfold wordN atW
  omega
theorem wordN_cast {l : List Int} (hl : Bytes l) (i : Nat) : ((wordN l i : Nat) : Int) = atW l (4 * i) := by
  obtain ⟨a0, a1⟩ := hl.get (4 * i)
  obtain ⟨b0, b1⟩ := hl.get (4 * i + 1)
  obtain ⟨c0, c1⟩ := hl.get (4 * i + 2)
  obtain ⟨e0, e1⟩ := hl.get (4 * i + 3)
  unfold wordN atW
  omega
theorem schedTo_all {l : List Int} (hl : Bytes l) (n : Nat) : AllW (schedTo l n) := by
  induction n with
  | zero => intro x hx; simp [schedTo] at hx; obtain ⟨i, _, rfl⟩ := hx; exact wordN_lt hl i
  | succ n ih =>
    intro x hx
    simp only [schedTo, List.mem_append, List.mem_singleton] at hx
    rcases hx with h | rfl
    · exact ih x h
    · exact Nat.mod_lt _ (by omega)

theorem at4_any (A : Option Addr) (l : List Int) (c i : Nat) (w : World) (hA : Bs w A l) (hl : Bytes l) (hm : (l.length : Int) ≤ 9223372036854775807) (hi : 4 * i + 4 ≤ l.length) :
    Calls Tryz.prog 62 #[.slice A l.length c, .int .i64 (4 * (i : Int))] w (NR w ((wordN l i : Nat) : Int)) := by
  rcases hA with rfl | ⟨b, off, rfl, hb, hA⟩
  · simp at hi
  · rw [wordN_cast hl, show (4 * (i : Int)) = ((4 * i : Nat) : Int) from by omega]
    exact l1At_any b off _ c (4 * i) _ _ _ _ w hi hm (hA _ (by omega)) (hA _ (by omega)) (hA _ (by omega)) (hA _ (by omega)) (hl.get _).1 (hl.get _).2 (hl.get _).1 (hl.get _).2 (hl.get _).1 (hl.get _).2 (hl.get _).1 (hl.get _).2
/-- A slice of numbers of the call's own comes back; what was there has not turned. -/
def WsRes (w : World) (ws : List Nat) (e : Ending) (w' : World) : Prop :=
  ∃ v, e = .returned v ∧ w'.ownsRow w.heap.size 2 1 v ws.length (ws.map wv) ∧ Below w.heap.size w w'
set_option maxRecDepth 100000 in
set_option maxHeartbeats 4000000 in
theorem sched_any (A : Option Addr) (l : List Int) (c : Nat) (w : World) (hA : Bs w A l) (hl : Bytes l) (h64 : l.length = 64) :
    Calls Tryz.prog 169 #[.slice A l.length c] w (WsRes w (schedN l)) := by
  have hm : (l.length : Int) ≤ 64 := by omega
  have hlen : 64 ≤ l.length := by omega
  clear h64
  obtain ⟨i0, hi, hzz⟩ := Option.map_eq_some_iff.1 infoI64
  simp only [Prod.mk.injEq] at hzz
  obtain ⟨hz0, hz1, hz2⟩ := hzz
  go_enter Tryz.func169, Tryz.ntmps169
  go_wp2
  go_loopw [3, 4] (fun v i wr => ∃ k : Nat, k ≤ 16 ∧ i = .int .i64 k ∧ wr.ownsRow w.heap.size 2 1 v k (((List.range k).map (wordN l)).map wv) ∧ Below w.heap.size w wr) (fun _ i _ => 16 - (intOf i).toNat)
  case atStart => exact ⟨0, by omega, rfl, World.ownsRow_lit w #[] 0 (Nat.le_refl _) (by unfold maxLen; omega) rfl, bal (Below.refl _ _) _⟩
  case round =>
    obtain ⟨k, hk, rfl, hown, hB⟩ := hrel
    have hsz := hB.size
    by_cases hlt : k < 16
    · have hlti : (k : Int) < 16 := by omega
      go_wp2_with fail
      refine (at4_any _ _ _ k _ (bs_below hA hB) hl (by omega) (by omega)).mono ?_
      rintro e w1 ⟨rfl, m, rfl⟩
      have hown1 := own_drewN hown m
      go_wp2_with (at_builtin; refine wpList_append_own _ rfl _ _ 38 rfl w.heap.size 2 i0 (.int .i64 0) 1 8 Tryz.underlying38 hi hz0 hz1 hz2 rfl (by decide) _ _ _ rfl (hown1.alloc _) ⟨wr.heap.size, 0, none⟩ 1 1 [wv (wordN l k)] rfl rfl ?c1 ?c2 ?c3 ?c4 ?c5 ?_)
      case c1 => exact cell_one_new _ _ _
      case c2 => intro u hu; simp at hu; subst hu; rfl
      case c3 => unfold maxLen; omega
      case c4 => omega
      case c5 => simp; omega
      intro v' w2 hown' hgrow _
      have B2 := hidH (own_grow hB hown hgrow)
      have O2 := hidH hown'
      clear hown hown1 hown' hgrow hB
      go_wp2
      go_roundw
      case rel => exact ⟨k + 1, by omega, by go_num, by have := O2.out; simpa [List.range_succ] using this, B2.out⟩
      case measure => simp [intOf]; omega
    · obtain rfl : k = 16 := by omega
      have O1 : wr.ownsRow w.heap.size 2 1 _ (schedTo l 0).length ((schedTo l 0).map wv) := hown
      have O := hidH O1
      have B := hidH hB
      clear hown hB O1 hlt hk
      go_wp2
      go_loopw [3, 5] (fun v i wr => ∃ k : Nat, k ≤ 48 ∧ i = .int .i64 ((16 + k : Nat) : Int) ∧ wr.ownsRow w.heap.size 2 1 v (schedTo l k).length ((schedTo l k).map wv) ∧ Below w.heap.size w wr) (fun _ i _ => 64 - (intOf i).toNat)
      case atStart => exact ⟨0, by omega, rfl, O.out, B.out⟩
      case round =>
        obtain ⟨k, hk, rfl, hown, hB⟩ := hrel
        have hsz2 := hB.size
        have hL := schedTo_len l k
        have hW := schedTo_all hl k
        have hN : schedTo l (k + 1) = schedTo l k ++ [nextN (schedTo l k)] := rfl
        have HN := hidH hN
        clear hN
        generalize hws : schedTo l k = ws at *
        have HL := hidH hL
        by_cases hlt : k < 48
        · have hlti : (16 : Int) + (k : Int) < 64 := by omega
          obtain ⟨g, cap, rfl, hg1, hg2⟩ := hown.form (by omega)
          have n0 : (ws.length : Int) ≤ 64 := by omega
          have i1 : (16 : Int) + (k : Int) - 15 < (ws.length : Int) := by omega
          have i2 : (16 : Int) + (k : Int) - 2 < (ws.length : Int) := by omega
          have i3 : (16 : Int) + (k : Int) - 16 < (ws.length : Int) := by omega
          have i4 : (16 : Int) + (k : Int) - 7 < (ws.length : Int) := by omega
          have j1 : (0 : Int) ≤ (16 : Int) + (k : Int) - 15 := by omega
          have j2 : (0 : Int) ≤ (16 : Int) + (k : Int) - 2 := by omega
          have j3 : (0 : Int) ≤ (16 : Int) + (k : Int) - 16 := by omega
          have j4 : (0 : Int) ≤ (16 : Int) + (k : Int) - 7 := by omega
          have t1 : ((16 : Int) + (k : Int) - 15).toNat = k + 1 := by omega
          have t2 : ((16 : Int) + (k : Int) - 2).toNat = k + 14 := by omega
          have t3 : ((16 : Int) + (k : Int) - 16).toNat = k := by omega
          have t4 : ((16 : Int) + (k : Int) - 7).toNat = k + 9 := by omega
          have cell : ∀ j, j < ws.length → wr.cell? ⟨g, j, none⟩ = some (.int .i64 ((ws.getD j 0 : Nat) : Int)) := fun j hj => by
            rw [hown.cellAt j (by omega)]; simp [hj, wv]
          have c1 := cell (k + 1) (by omega)
          have c2 := cell (k + 14) (by omega)
          have c3 := cell k (by omega)
          have c4 := cell (k + 9) (by omega)
          have w1 := hW.get (k + 1)
          have w2 := hW.get (k + 14)
          have w3 := hW.get k
          have w4 := hW.get (k + 9)
          have hnx : ((nextN ws : Nat) : Int) = (((ws.getD k 0 : Nat) : Int) + ((ws.getD (k + 9) 0 : Nat) : Int) + (((smallN (ws.getD (k + 1) 0) 7 18 3 : Nat) : Int) + ((smallN (ws.getD (k + 14) 0) 17 19 10 : Nat) : Int))) % 4294967296 := by
            rw [nextN, show ws.length - 16 = k from by omega, show ws.length - 7 = k + 9 from by omega, show ws.length - 15 = k + 1 from by omega, show ws.length - 2 = k + 14 from by omega]
            omega
          generalize ws.getD (k + 1) 0 = x1 at *
          generalize ws.getD (k + 14) 0 = x2 at *
          generalize ws.getD k 0 = x3 at *
          generalize ws.getD (k + 9) 0 = x4 at *
          have s1 := smallN_lt x1 7 18 3 w1 (by omega) (by omega)
          have s2 := smallN_lt x2 17 19 10 w2 (by omega) (by omega)
          have NX := hidH hnx
          have HS := hidH hws
          clear cell hW hnx hws hL
          go_wp2_with fail
          refine (small_any x1 7 18 3 _ w1 (by omega) (by omega) (by omega)).mono ?_
          rintro e wa ⟨rfl, ma, rfl⟩
          go_wp2_with fail
          refine (small_any x2 17 19 10 _ w2 (by omega) (by omega) (by omega)).mono ?_
          rintro e wb ⟨rfl, mb, rfl⟩
          go_wp2_with fail
          generalize smallN x1 7 18 3 = y1 at *
          generalize smallN x2 17 19 10 = y2 at *
          have v3 : IntKind.i64.wrap ((16 : Int) + (k : Int) - 16) = (16 : Int) + (k : Int) - 16 := IntWalk.i64_in _ (by omega)
          have v4 : IntKind.i64.wrap ((16 : Int) + (k : Int) - 7) = (16 : Int) + (k : Int) - 7 := IntWalk.i64_in _ (by omega)
          have q3 : (16 : Int) ≤ (16 : Int) + (k : Int) := by omega
          have q4 : (7 : Int) ≤ (16 : Int) + (k : Int) := by omega
          go_region_law (first
            | (refine step_append_lies _ (by rfl) _ _ _ (by rfl) w.heap.size 2 i0 _ 1 8 Tryz.underlying38 hi hz0 hz1 hz2 rfl (by omega) _ ws.length (ws.map wv) (by rfl) (by exact World.ownsRow.alloc (by exact hown) _) ⟨wr.heap.size, 0, none⟩ 1 1 [wv (nextN ws)] (by rfl) (by rfl) (by rw [wv, NX.out]; exact World.news_of_block (cs := #[.int .i64 (((x3 : Int) + (x4 : Int) + ((y1 : Int) + (y2 : Int))) % 4294967296)]) (t := 2) (fr := (0, 0)) (by exact heap_alloc_new _ _)) (by simp [Value.oneCell', wv]) (by omega) (by unfold maxLen; omega) (by omega) (by simp; omega) (wr.heap.size + 1) (by simp) ?_; intro gg cp2 w9 hown9 hgrow9 hat9 hlt9)
            | (go_simp; go_at_call 173; refine (l1Add_any _ _ _ (by omega) (by omega) (by omega) (by omega)).mono ?_; rintro e w' ⟨rfl, rfl⟩))
          all_goals
            have B2 := hidH (own_grow hB hown hgrow9)
            have O2 := hidH hown9
            clear hown hown9 hgrow9 hat9 hlt9 hB
            go_wp2
            go_roundw
            case rel => (repeat apply Exists.intro); exact ⟨⟨k + 1, by omega, by go_num, by rw [HN.out]; have := O2.out; simpa using this, B2.out⟩, rfl⟩
            case measure => simp [intOf]; omega
        · obtain rfl : k = 48 := by omega
          have O2 := hidH hown
          have B2 := hidH hB
          have HS := hidH hws
          have g1 : (64 : Int) ≤ 16 + ((48 : Nat) : Int) := by omega
          clear hown hB hws hlt hk hW hL
          go_wp2
          go_ret
          exact ⟨_, rfl, by rw [schedN, HS.out]; exact O2.out, B2.out⟩
end Go.Proofs.YtacdnednkglobaaGreatDoor

/- The round constants, and RoundWord of the model. -/
namespace Go.Proofs.YtacdnednkglobaaGreatDoor
open Go.RowKit Go.Deep

/-- The round constants. -/
def keysN : List Nat := [1116352408, 1899447441, 3049323471, 3921009573, 961987163, 1508970993, 2453635748, 2870763221, 3624381080, 310598401, 607225278, 1426881987, 1925078388, 2162078206, 2614888103, 3248222580, 3835390401, 4022224774, 264347078, 604807628, 770255983, 1249150122, 1555081692, 1996064986, 2554220882, 2821834349, 2952996808, 3210313671, 3336571891, 3584528711, 113926993, 338241895, 666307205, 773529912, 1294757372, 1396182291, 1695183700, 1986661051, 2177026350, 2456956037, 2730485921, 2820302411, 3259730800, 3345764771, 3516065817, 3600352804, 4094571909, 275423344, 430227734, 506948616, 659060556, 883997877, 958139571, 1322822218, 1537002063, 1747873779, 1955562222, 2024104815, 2227730452, 2361852424, 2428436474, 2756734187, 3204031479, 3329325298]
theorem keysN_len : keysN.length = 64 := rfl
theorem keysN_all : AllW keysN := by
  intro x hx
  have : ∀ y ∈ keysN, y < 4294967296 := by decide
  exact this x hx
/-- A block from its start on reads as the words ws. -/
def Nw (w : World) (g : Nat) (ws : List Nat) : Prop := g < w.heap.size ∧ ∀ j, j < ws.length → w.cell? ⟨g, j, none⟩ = some (.int .i64 ((ws.getD j 0 : Nat) : Int))
theorem Nw.of_blk {w : World} {g : Nat} {t : TypeId} {ws : List Nat} (h : Blk w g t (ws.map wv).toArray) : Nw w g ws :=
  ⟨h.lt, fun j hj => by rw [h.cell]; simp [hj, wv]⟩
theorem Nw.below {w w' : World} {g : Nat} {ws : List Nat} (h : Nw w g ws) (hb : Below w.heap.size w w') : Nw w' g ws :=
  ⟨Nat.lt_of_lt_of_le h.1 hb.size, fun j hj => (hb.cell (p := ⟨g, j, none⟩) h.1).trans (h.2 j hj)⟩
theorem Nw.of_own {w : World} {B : Nat} {e : TypeId} {v : Value} {ws : List Nat} (h : w.ownsRow B e 1 v ws.length (ws.map wv)) (hn : 0 < ws.length) :
    ∃ g cap, v = .slice (some ⟨g, 0, none⟩) ws.length cap ∧ B ≤ g ∧ ws.length ≤ cap ∧ (cap : Int) ≤ 9223372036854775807 ∧ Nw w g ws ∧ ∀ j, w.frozen? ⟨g, j, none⟩ = false := by
  obtain ⟨g, cap, rfl, hg, hlt⟩ := h.form hn
  have hc : ws.length ≤ cap ∧ (cap : Int) ≤ 9223372036854775807 := by
    rcases h.2 with ⟨h1, _⟩ | ⟨g', cap', cur, h1, _, _, h2, h3, _⟩
    · cases h1
    · injection h1 with _ _ h4
      subst h4
      unfold maxLen at h3
      exact ⟨h2, by omega⟩
  exact ⟨g, cap, rfl, hg, hc.1, hc.2, ⟨hlt, fun j hj => by rw [h.cellAt j (by omega)]; simp [hj, wv]⟩, fun j => h.frozenAt j⟩
set_option maxRecDepth 100000 in
set_option maxHeartbeats 4000000 in
theorem keys_any (w : World) : Calls Tryz.prog 168 #[] w fun e w' => e = .returned (.slice (some ⟨w.heap.size, 0, none⟩) 64 64) ∧ Nw w' w.heap.size keysN ∧ Below w.heap.size w w' := by
  go_enter Tryz.func168, Tryz.ntmps168
  go_wp2
  go_ret
  exact ⟨rfl, Nw.of_blk (t := 2) (Blk.new w _ _), bal (Below.refl _ _) _⟩
def roundC (i : Int) : Int := if 0 ≤ i ∧ i ≤ 63 then 0 else 3
def roundV (i : Int) : Int := if 0 ≤ i ∧ i ≤ 63 then ((keysN.getD i.toNat 0 : Nat) : Int) else 0
end Go.Proofs.YtacdnednkglobaaGreatDoor
