/- HMAC-SHA-256 as a function on lists of bytes. Nothing of the program. -/
import Derived.Test.YtanffpmpknmldaaShaL
import Derived.Test.YtanffpmpknmldaaCrcM
namespace Go.Proofs.Ytanffpmpknmldaa
open Go.RowKit Go.Deep

def byteX (m : Nat) (x : Int) : Int := ((x.toNat ^^^ m : Nat) : Int)
def padZ (l : List Int) : List Int := l ++ List.replicate (64 - l.length) 0
def keyK (key : List Int) : List Int := if 64 < key.length then shaL key else key
def blockK (key : List Int) (m : Nat) : List Int := (padZ (keyK key)).map (byteX m)
def hmL (key data : List Int) : List Int := shaL (blockK key 92 ++ shaL (blockK key 54 ++ data))
def hmC (key data : List Int) : Int := if key.length ≤ 200 ∧ data.length ≤ 600 then 0 else 2
def hmM (key data : List Int) : List Int := if key.length ≤ 200 ∧ data.length ≤ 600 then hmL key data else []
theorem shaL_len' (l : List Int) : (shaL l).length = 32 := by rw [shaL, wordsL_len _ _ (by rw [shaTo_len]; omega)]
theorem wordsL_bytes {st : List Nat} (h : AllW st) (k : Nat) : Bytes (wordsL st k) := by
  intro x hx
  unfold wordsL at hx
  rw [List.mem_flatten] at hx
  obtain ⟨l, hl, hx⟩ := hx
  rw [List.mem_map] at hl
  obtain ⟨y, hy, rfl⟩ := hl
  have := h y (List.mem_of_mem_take hy)
  exact pk_bytes' (a := (y : Int)) (by omega) (by omega) x hx
theorem shaL_bytes (l : List Int) : Bytes (shaL l) := wordsL_bytes (shaTo_all _ _) _
theorem byteX_byte {m : Nat} (hm : m < 256) {x : Int} (h0 : 0 ≤ x) (h1 : x ≤ 255) : 0 ≤ byteX m x ∧ byteX m x ≤ 255 := by
  have : x.toNat ^^^ m < 256 := Nat.xor_lt_two_pow (n := 8) (by omega) hm
  unfold byteX
  omega
theorem byteX_ne {m : Nat} (hm : 0 < m) {x : Int} (h0 : 0 ≤ x) : byteX m x ≠ x := by
  intro h
  have h2 : x.toNat ^^^ m = x.toNat ^^^ 0 := by unfold byteX at h; rw [Nat.xor_zero]; omega
  have := xor_can' h2
  omega
theorem keyK_len (key : List Int) : (keyK key).length ≤ 64 := by
  unfold keyK; split
  · rw [shaL_len']; omega
  · omega
theorem blockK_len (key : List Int) (m : Nat) : (blockK key m).length = 64 := by
  have := keyK_len key
  simp [blockK, padZ]; omega
theorem keyK_bytes {key : List Int} (h : Bytes key) : Bytes (keyK key) := by
  unfold keyK; split
  · exact shaL_bytes key
  · exact h
theorem blockK_bytes {key : List Int} (h : Bytes key) {m : Nat} (hm : m < 256) : Bytes (blockK key m) := by
  intro x hx
  simp only [blockK, padZ, List.mem_map, List.mem_append, List.mem_replicate] at hx
  obtain ⟨y, hy | ⟨_, rfl⟩, rfl⟩ := hx
  · have := keyK_bytes h y hy
    exact byteX_byte hm this.1 this.2
  · exact byteX_byte hm (Int.le_refl _) (by omega)
/-- A key with a zero byte behind it is the same key. -/
theorem blockK_zero (key : List Int) (m : Nat) (h : key.length < 64) : blockK (key ++ [0]) m = blockK key m := by
  have e1 : keyK (key ++ [0]) = key ++ [0] := by rw [keyK, if_neg (by simp; omega)]
  have e2 : keyK key = key := by rw [keyK, if_neg (by omega)]
  rw [blockK, blockK, e1, e2, padZ, padZ]
  congr 1
  rw [List.append_assoc]
  congr 1
  simp only [List.length_append, List.length_cons, List.length_nil]
  rw [show 64 - key.length = (64 - (key.length + 1)) + 1 from by omega, List.replicate_succ]
  rfl
/-- A key that is too long and its digest are the same key. -/
theorem blockK_sha (key : List Int) (m : Nat) (h : 64 < key.length) : blockK (shaL key) m = blockK key m := by
  have e1 : keyK (shaL key) = shaL key := by rw [keyK, if_neg (by rw [shaL_len']; omega)]
  have e2 : keyK key = shaL key := by rw [keyK, if_pos h]
  rw [blockK, blockK, e1, e2]
theorem hmL_zero (key data : List Int) (h : key.length < 64) : hmL (key ++ [0]) data = hmL key data := by
  rw [hmL, hmL, blockK_zero _ _ h, blockK_zero _ _ h]
theorem hmL_sha (key data : List Int) (h : 64 < key.length) : hmL (shaL key) data = hmL key data := by
  rw [hmL, hmL, blockK_sha _ _ h, blockK_sha _ _ h]
theorem hmL_len (key data : List Int) : (hmL key data).length = 32 := shaL_len' _
theorem hmL_bytes (key data : List Int) : Bytes (hmL key data) := shaL_bytes _
theorem hmM_le (key data : List Int) : ((hmM key data).length : Int) ≤ 100000 := by
  unfold hmM; split
  · rw [hmL_len]; omega
  · simp
/-- Turned at one place a list is another one. -/
theorem turn_ne {l : List Int} (hl : Bytes l) (k m : Nat) (hk : k < l.length) (hm : 0 < m) : l.set k (byteX m (l.getD k 0)) ≠ l := by
  intro h
  have h2 := congrArg (fun x => x.getD k 0) h
  simp [List.getD_eq_getElem?_getD, hk] at h2
  have hb := hl.get k
  rw [List.getD_eq_getElem?_getD] at hb
  simp [hk] at hb
  exact byteX_ne hm hb.1 h2
def sameL (a b : List Int) : Bool := decide (a.length = 32) && decide (a = b)
end Go.Proofs.Ytanffpmpknmldaa
