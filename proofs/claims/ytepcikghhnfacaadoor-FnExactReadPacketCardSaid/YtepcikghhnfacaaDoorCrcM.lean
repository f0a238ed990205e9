/- CRC-32C as a function on numbers: a byte that is turned always turns it. Nothing of the program. -/
import Derived.Test.YtepcikghhnfacaaDoorWords
namespace Go.Proofs.YtepcikghhnfacaaDoor

theorem xor_can {a b c : Nat} (h : a ^^^ c = b ^^^ c) : a = b := by
  have := congrArg (· ^^^ c) h
  simpa [Nat.xor_assoc] using this
theorem xor_can' {a b c : Nat} (h : c ^^^ a = c ^^^ b) : a = b := xor_can (c := c) (by rw [Nat.xor_comm a, Nat.xor_comm b]; exact h)
def crcBit (n : Nat) : Nat := if n % 2 = 1 then n / 2 ^^^ 2197175160 else n / 2
def crcBits (n : Nat) : Nat → Nat
  | 0 => n
  | k + 1 => crcBit (crcBits n k)
def crcStep (n b : Nat) : Nat := crcBits (n ^^^ b) 8
def crcTo (n : Nat) (l : List Nat) : Nat := l.foldl crcStep n
def crcV (l : List Nat) : Nat := crcTo 4294967295 l ^^^ 4294967295
theorem crcBit_lt {n : Nat} (h : n < 4294967296) : crcBit n < 4294967296 := by
  unfold crcBit
  split
  · exact Nat.xor_lt_two_pow (n := 32) (by omega) (by omega)
  · omega
theorem crcBits_lt {n : Nat} (h : n < 4294967296) (k : Nat) : crcBits n k < 4294967296 := by
  induction k with
  | zero => exact h
  | succ k ih => exact crcBit_lt ih
/-- The polynomial's highest bit tells whether the number was odd. -/
theorem crcBit_top {n : Nat} (h : n < 4294967296) : (crcBit n).testBit 31 = decide (n % 2 = 1) := by
  have hd : (n / 2).testBit 31 = false := Nat.testBit_lt_two_pow (by omega)
  unfold crcBit
  split
  · next ho => rw [Nat.testBit_xor, hd, ho]; decide
  · next ho => rw [hd]; simp [ho]
theorem crcBit_inj {a b : Nat} (ha : a < 4294967296) (hb : b < 4294967296) (h : crcBit a = crcBit b) : a = b := by
  have h1 := crcBit_top ha
  have h2 := crcBit_top hb
  rw [h, h2] at h1
  unfold crcBit at h
  by_cases hA : a % 2 = 1
  · have hB : b % 2 = 1 := by simpa [hA] using h1
    rw [if_pos hA, if_pos hB] at h
    have := xor_can h
    omega
  · have hB : ¬ b % 2 = 1 := by simpa [hA] using h1
    rw [if_neg hA, if_neg hB] at h
    omega
theorem crcBits_inj {a b : Nat} (ha : a < 4294967296) (hb : b < 4294967296) (k : Nat) (h : crcBits a k = crcBits b k) : a = b := by
  induction k with
  | zero => exact h
  | succ k ih => exact ih (crcBit_inj (crcBits_lt ha k) (crcBits_lt hb k) h)
theorem crc_xor_lt {n b : Nat} (hn : n < 4294967296) (hb : b < 256) : n ^^^ b < 4294967296 := Nat.xor_lt_two_pow (n := 32) hn (by omega)
theorem crcStep_lt {n b : Nat} (hn : n < 4294967296) (hb : b < 256) : crcStep n b < 4294967296 := crcBits_lt (crc_xor_lt hn hb) 8
theorem crcTo_lt {n : Nat} {l : List Nat} (hn : n < 4294967296) (hl : ∀ x ∈ l, x < 256) : crcTo n l < 4294967296 := by
  induction l generalizing n with
  | nil => exact hn
  | cons x l ih => exact ih (crcStep_lt hn (hl x (by simp))) (fun y hy => hl y (by simp [hy]))
theorem crcTo_inj {a b : Nat} {l : List Nat} (ha : a < 4294967296) (hb : b < 4294967296) (hl : ∀ x ∈ l, x < 256) (h : crcTo a l = crcTo b l) : a = b := by
  induction l generalizing a b with
  | nil => exact h
  | cons x l ih =>
    have hx := hl x (by simp)
    have := ih (crcStep_lt ha hx) (crcStep_lt hb hx) (fun y hy => hl y (by simp [hy])) h
    exact xor_can (crcBits_inj (crc_xor_lt ha hx) (crc_xor_lt hb hx) 8 this)
/-- One byte turned: another sum. -/
theorem crcTo_turn {n : Nat} {l : List Nat} (k v : Nat) (hn : n < 4294967296) (hl : ∀ x ∈ l, x < 256) (hk : k < l.length) (hv : v < 256) (hne : v ≠ l.getD k 0) : crcTo n (l.set k v) ≠ crcTo n l := by
  induction l generalizing n k with
  | nil => simp at hk
  | cons x l ih =>
    have hx := hl x (by simp)
    have hl' : ∀ y ∈ l, y < 256 := fun y hy => hl y (by simp [hy])
    cases k with
    | zero =>
      intro h
      simp only [List.set_cons_zero] at h
      have h2 := crcTo_inj (crcStep_lt hn hv) (crcStep_lt hn hx) hl' h
      have h3 := crcBits_inj (crc_xor_lt hn hv) (crc_xor_lt hn hx) 8 h2
      exact hne (by simpa using xor_can' h3)
    | succ k =>
      simp only [List.set_cons_succ]
      exact ih k (crcStep_lt hn hx) hl' (by simpa using hk) (by simpa using hne)
theorem crcV_lt {l : List Nat} (hl : ∀ x ∈ l, x < 256) : crcV l < 4294967296 := Nat.xor_lt_two_pow (n := 32) (crcTo_lt (by omega) hl) (by omega)
theorem crcV_turn {l : List Nat} (k v : Nat) (hl : ∀ x ∈ l, x < 256) (hk : k < l.length) (hv : v < 256) (hne : v ≠ l.getD k 0) : crcV (l.set k v) ≠ crcV l := fun h =>
  crcTo_turn k v (by decide) hl hk hv hne (xor_can h)
end Go.Proofs.YtepcikghhnfacaaDoor
