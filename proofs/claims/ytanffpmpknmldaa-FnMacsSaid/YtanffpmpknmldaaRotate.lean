/- What RotateWord answers, the program's and the model's: the word turned right by n bits. No condition. -/
import Derived.Test.YtanffpmpknmldaaLess
import Derived.Deep.QuietTactic
import Derived.BigQuiet
import Derived.IntWalk
namespace Go.Proofs.Ytanffpmpknmldaa
open Go.RowKit

def rotN (x n : Nat) : Nat := x / 2 ^ n + x % 2 ^ n * 2 ^ (32 - n)
def rotC (x n : Int) : Int := if IsW x ∧ 0 ≤ n ∧ n ≤ 31 then 0 else 3
def rotV (x n : Int) : Int := if IsW x ∧ 0 ≤ n ∧ n ≤ 31 then (rotN x.toNat n.toNat : Int) else 0

theorem and31 : ∀ k : Fin 32, bits BinOp.and IntKind.u64 (IntKind.u64.wrap (-(k.val : Int))) 31 = (((32 - k.val) % 32 : Nat) : Int) := by decide +kernel
theorem and31n (n : Int) (h3 : 1 ≤ n) (h4 : n ≤ 31) : bits BinOp.and IntKind.u64 (IntKind.u64.wrap (-n)) 31 = 32 - n := by
  obtain ⟨k, rfl⟩ : ∃ k : Nat, n = k := ⟨n.toNat, by omega⟩
  have := and31 ⟨k, by omega⟩
  simp only at this
  rw [this]
  omega
theorem pow_split (n : Nat) (hn : n ≤ 32) : 4294967296 = 2 ^ n * 2 ^ (32 - n) := by
  rw [← Nat.pow_add, show n + (32 - n) = 32 from by omega]
theorem rotN_lt (x n : Nat) (hx : x < 4294967296) (hn : n ≤ 32) : rotN x n < 4294967296 := by
  have e := pow_split n hn
  have h2 : 0 < 2 ^ n := Nat.two_pow_pos n
  have h3 : x / 2 ^ n < 2 ^ (32 - n) := by rw [Nat.div_lt_iff_lt_mul h2, Nat.mul_comm, ← e]; exact hx
  have h4 : x % 2 ^ n + 1 ≤ 2 ^ n := Nat.mod_lt _ h2
  have h5 := Nat.mul_le_mul_right (2 ^ (32 - n)) h4
  rw [← e, Nat.add_mul] at h5
  unfold rotN
  omega
theorem or_rot (x n : Nat) (hx : x < 4294967296) (h1 : n ≤ 32) :
    bits BinOp.or IntKind.u32 (((x * 2 ^ (32 - n) % 4294967296 : Nat)) : Int) ((x / 2 ^ n : Nat) : Int) = (rotN x n : Int) := by
  have e := pow_split n h1
  have h2 : 0 < 2 ^ n := Nat.two_pow_pos n
  have h3 : x / 2 ^ n < 2 ^ (32 - n) := by rw [Nat.div_lt_iff_lt_mul h2, Nat.mul_comm, ← e]; exact hx
  have h4 : x / 2 ^ n ≤ x := Nat.div_le_self _ _
  have h5 : x * 2 ^ (32 - n) % 4294967296 < 4294967296 := Nat.mod_lt _ (by decide)
  rw [u32_or_nat _ _ h5 (by omega)]
  have h6 : x * 2 ^ (32 - n) % 4294967296 = 2 ^ (32 - n) * (x % 2 ^ n) := by rw [e, Nat.mul_mod_mul_right, Nat.mul_comm]
  rw [h6, ← Nat.two_pow_add_eq_or_of_lt h3, rotN, Nat.add_comm, Nat.mul_comm]

set_option maxHeartbeats 400000 in
theorem rotl_any (x n : Int) (w : World) (h1 : 0 ≤ x) (h2 : x ≤ 4294967295) (h3 : 0 ≤ n) (h4 : n ≤ 31) :
    Calls Try.prog 73 #[.int .u32 x, .int .i64 (-n)] w fun e w' => e = .returned (.int .u32 (rotN x.toNat n.toNat)) ∧ w = w' := by
  by_cases h0 : n = 0
  · subst h0
    have e : (rotN x.toNat (0 : Int).toNat : Int) = x := by simp [rotN, Nat.mod_one]; omega
    rw [e]
    clear e
    have hs : bits BinOp.and IntKind.u64 0 31 = 0 := by decide
    go_enter Try.func73, Try.ntmps73
    go_wp2
    go_ret
    refine ⟨ret_int ?_, rfl⟩
    rw [show x / 4294967296 = 0 from by omega, u32_or x 0 h1 (by omega) (by omega) (by omega)]
    simp; omega
  · have hs := and31n n (by omega) h4
    obtain ⟨X, rfl⟩ : ∃ X : Nat, x = X := ⟨x.toNat, by omega⟩
    obtain ⟨k, rfl⟩ : ∃ k : Nat, n = k := ⟨n.toNat, by omega⟩
    have hv := or_rot X k (by omega) (by omega)
    have H := hidH hv
    clear hv
    go_enter Try.func73, Try.ntmps73
    go_wp2
    go_ret
    refine ⟨ret_int ?_, rfl⟩
    have hv := H.out
    rw [show (32 - (32 - k)) = k from by omega]
    simpa using hv
theorem two_step (n m : Nat) (h : m + 1 ≤ n) : (2 : Int) ^ (n - (m + 1)) * 2 = 2 ^ (n - m) := by
  rw [show n - m = (n - (m + 1)) + 1 from by omega, Int.pow_succ]
theorem two_le (k : Nat) (h : k ≤ 31) : (1 : Int) ≤ 2 ^ k ∧ (2 : Int) ^ k ≤ 2147483648 := by
  have h1 : (2 : Nat) ^ k ≤ 2 ^ 31 := Nat.pow_le_pow_right (by decide) h
  have h2 : 0 < (2 : Nat) ^ k := Nat.two_pow_pos k
  have e : ((2 ^ k : Nat) : Int) = (2 : Int) ^ k := by simp
  omega
def powI (k : Nat) : Int := 2 ^ k
theorem powI_bd (k : Nat) (h : k ≤ 31) : 1 ≤ powI k ∧ powI k ≤ 2147483648 := two_le k h
theorem powI_step (n m : Nat) (h : m + 1 ≤ n) : powI (n - (m + 1)) * 2 = powI (n - m) := two_step n m h
set_option maxHeartbeats 400000 in
theorem pow_any (n : Nat) (w : World) (hn : n ≤ 31) :
    Calls Try.prog 77 #[.int .i64 n] w fun e w' => e = .returned (.int .i64 (powI n)) ∧ w = w' := by
  go_enter Try.func77, Try.ntmps77
  go_wp2
  go_loop [0, 3] (fun i p => ∃ m : Nat, m ≤ n ∧ i = .int .i64 m ∧ p = .int .i64 (powI (n - m))) (fun i _ => (intOf i).toNat)
  case atStart => exact ⟨n, Nat.le_refl _, rfl, by simp [powI]⟩
  case round =>
    obtain ⟨m, hm, rfl, rfl⟩ := hrel
    have hb := powI_bd (n - m) (by omega)
    obtain ⟨hb1, hb2⟩ := hb
    rcases m with _ | m
    · go_wp2
      go_ret
      exact ⟨rfl, rfl⟩
    · have hs := powI_step n m hm
      have H := hidH hs
      clear hs
      have hgt : (0 : Int) < ((m + 1 : Nat) : Int) := by omega
      go_wp2
      go_round
      case rel => exact ⟨m, by omega, rfl, by rw [H.out]⟩
      case measure => simp [intOf]
theorem rot_wrap (x n : Nat) (hx : x ≤ 4294967295) (hn : n ≤ 31) :
    wrap64 (wrap64 ((x : Int) / powI n) + wrap64 ((x : Int) % powI n * (4294967296 / powI n))) = (rotN x n : Int) := by
  have e := pow_split n (by omega)
  have hp : powI n = ((2 ^ n : Nat) : Int) := by simp [powI]
  have h2 : 0 < 2 ^ n := Nat.two_pow_pos n
  have hq : (4294967296 : Int) / powI n = ((2 ^ (32 - n) : Nat) : Int) := by
    rw [hp, show (4294967296 : Int) = ((4294967296 : Nat) : Int) from rfl, ← Int.natCast_ediv]
    congr 1
    rw [e, Nat.mul_comm, Nat.mul_div_cancel _ h2]
  have hd : (x : Int) / powI n = ((x / 2 ^ n : Nat) : Int) := by rw [hp, ← Int.natCast_ediv]
  have hm : (x : Int) % powI n = ((x % 2 ^ n : Nat) : Int) := by rw [hp, ← Int.natCast_emod]
  have hl := rotN_lt x n (by omega) (by omega)
  rw [hq, hd, hm, ← Int.natCast_mul]
  unfold rotN at hl ⊢
  generalize x / 2 ^ n = a at *
  generalize x % 2 ^ n * 2 ^ (32 - n) = b at *
  rw [IntWalk.wrap64_in (a : Int) (by omega), IntWalk.wrap64_in (b : Int) (by omega), IntWalk.wrap64_in ((a : Int) + b) (by omega)]
  omega
set_option maxHeartbeats 400000 in
theorem l1Rot_any (x n : Nat) (w : World) (hx : x ≤ 4294967295) (hn : n ≤ 31) :
    Calls Try.prog 76 #[.int .i64 x, .int .i64 n] w fun e w' => e = .returned (.int .i64 (rotN x n)) ∧ ∃ k, w.drewN k = w' := by
  have hb := powI_bd n hn
  obtain ⟨hb1, hb2⟩ := hb
  go_enter Try.func76, Try.ntmps76
  go_wp2_with (go_at_call 77; refine (pow_any _ _ hn).mono ?_; rintro e w' ⟨rfl, rfl⟩)
  go_quiet (fail)
  go_wp2
  go_ret
  exact ⟨ret_int (rot_wrap x n hx hn), _, rfl⟩
set_option maxHeartbeats 400000 in
theorem rotate_any (x n : Int) (w : World) (h1 : 0 ≤ x) (h2 : x ≤ 4294967295) (h3 : 0 ≤ n) (h4 : n ≤ 31) :
    Calls Try.prog 65 #[.int .u32 x, .int .i64 n] w fun e w' => e = .returned (.int .u32 (rotN x.toNat n.toNat)) ∧ w = w' := by
  have hl := rotN_lt x.toNat n.toNat (by omega) (by omega)
  have hl2 : (rotN x.toNat n.toNat : Int) ≤ 4294967295 := by omega
  clear hl
  go_enter Try.func65, Try.ntmps65
  go_wp2_with (go_at_call 73; refine (rotl_any _ _ _ h1 h2 h3 h4).mono ?_; rintro e w' ⟨rfl, rfl⟩)
  exact bodyPost_ret (v := .int .u32 (rotN x.toNat n.toNat)) (by simp [results, Try.results65, go_sem]) rfl ⟨rfl, rfl⟩
end Go.Proofs.Ytanffpmpknmldaa
