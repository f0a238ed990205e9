/- Chapter 9 on numbers: the faults of a receiver. -/
import Derived.Test.YthljdikcpdokdaaTyRecv
import Derived.Test.YthljdikcpdokdaaM8
import Derived.Test.YthljdikcpdokdaaLess
namespace Go.Proofs.Ythljdikcpdokdaa
open Go.RowKit Go.Deep

theorem gapV_yes {a b : Int} (ha : IsW a) (hb : IsW b) : gapV a b = (b - a) % 4294967296 := by rw [gapV, if_pos ⟨ha, hb⟩]
theorem gapV_rng (a b : Int) : 0 ≤ gapV a b ∧ gapV a b ≤ 4294967295 := by unfold gapV; split <;> omega
theorem wB_is {a : Int} (h : wB a = true) : IsW a := by
  unfold wB inB at h; simp at h; exact h
/-- The fault of the TSNs beyond Cum, the last distance being `a`. -/
def byF (cum : Int) : Int → List Int → Int
  | _, [] => 0
  | a, t :: l => if wB t then (if gapV cum t ≤ 16 then (if a < gapV cum t then byF cum (gapV cum t) l else 1) else 1) else 3
theorem getD_at9 {l : List Int} {j : Nat} (hj : j < l.length) : l.getD j 0 = l[j] := by
  rw [List.getD_eq_getElem?_getD, List.getElem?_eq_getElem hj]; rfl
theorem byF_step (cum a : Int) {l : List Int} {j : Nat} (hj : j < l.length) : byF cum a (l.drop j) =
    if wB (l.getD j 0) then (if gapV cum (l.getD j 0) ≤ 16 then (if a < gapV cum (l.getD j 0) then byF cum (gapV cum (l.getD j 0)) (l.drop (j + 1)) else 1) else 1) else 3 := by
  rw [List.drop_eq_getElem_cons hj, byF, getD_at9 hj]
/-- Whether a TSN has arrived. -/
def arrB (cum : Int) (bey : List Int) (t : Int) : Bool := !(lessB cum t) || decide (t ∈ bey)
def ordB (p : Option Int) (t : Int) : Bool := match p with | none => true | some q => lessB q t
/-- The fault of a piece, the TSN of the one ahead being `p`. -/
def poF (cum : Int) (bey : List Int) (p : Option Int) (d : DataM) : Int := if pdF d = 0 then (if ordB p d.Tsn then (if arrB cum bey d.Tsn then 0 else 8) else 1) else pdF d
def psF (cum : Int) (bey : List Int) : Option Int → List DataM → Int
  | _, [] => 0
  | p, d :: r => if poF cum bey p d = 0 then psF cum bey (some d.Tsn) r else poF cum bey p d
def prv (r : List DataM) (j : Nat) : Option Int := if j = 0 then none else (r[j - 1]?).map (·.Tsn)
theorem prv_succ {r : List DataM} {j : Nat} (hj : j < r.length) : prv r (j + 1) = some r[j].Tsn := by
  simp [prv, List.getElem?_eq_getElem hj]
theorem psF_step (cum : Int) (bey : List Int) {r : List DataM} {j : Nat} (hj : j < r.length) (h : psF cum bey (prv r j) (r.drop j) = psF cum bey none r) :
    psF cum bey none r = if poF cum bey (prv r j) r[j] = 0 then psF cum bey (prv r (j + 1)) (r.drop (j + 1)) else poF cum bey (prv r j) r[j] := by
  rw [← h, List.drop_eq_getElem_cons hj, psF, prv_succ hj]
def nxF : List Int → Int
  | [] => 0
  | n :: l => if inB n 0 65535 then nxF l else 3
theorem nxF_step {l : List Int} {j : Nat} (hj : j < l.length) : nxF (l.drop j) = if inB (l.getD j 0) 0 65535 then nxF (l.drop (j + 1)) else 3 := by
  rw [List.drop_eq_getElem_cons hj, nxF, getD_at9 hj]
/-- The fault of a receiver. -/
def rvN (y : RecvM) : Bool := decide (y.Beyond.length ≤ 16) && decide (y.Pieces.length ≤ 64) && decide (y.Next.length = 10)
def rvF (y : RecvM) : Int :=
  if wB y.Cum then (if rvN y then (if byF y.Cum 1 y.Beyond = 0 then (if psF y.Cum y.Beyond none y.Pieces = 0 then nxF y.Next else psF y.Cum y.Beyond none y.Pieces) else byF y.Cum 1 y.Beyond) else 2) else 3
theorem rvF_range {y : RecvM} (h : wB y.Cum = false) : rvF y = 3 := by unfold rvF; rw [h]; rfl
theorem rvF_many {y : RecvM} (h : wB y.Cum = true) (k : rvN y = false) : rvF y = 2 := by unfold rvF; rw [h, k]; rfl
theorem rvF_by {y : RecvM} (h : wB y.Cum = true) (k : rvN y = true) (z : byF y.Cum 1 y.Beyond ≠ 0) : rvF y = byF y.Cum 1 y.Beyond := by unfold rvF; rw [h, k, if_pos rfl, if_pos rfl, if_neg z]
theorem rvF_ps {y : RecvM} (h : wB y.Cum = true) (k : rvN y = true) (z : byF y.Cum 1 y.Beyond = 0) (q : psF y.Cum y.Beyond none y.Pieces ≠ 0) : rvF y = psF y.Cum y.Beyond none y.Pieces := by unfold rvF; rw [h, k, if_pos rfl, if_pos rfl, if_pos z, if_neg q]
theorem rvF_nx {y : RecvM} (h : wB y.Cum = true) (k : rvN y = true) (z : byF y.Cum 1 y.Beyond = 0) (q : psF y.Cum y.Beyond none y.Pieces = 0) : rvF y = nxF y.Next := by unfold rvF; rw [h, k, if_pos rfl, if_pos rfl, if_pos z, if_pos q]
theorem rvN_b {y : RecvM} (h : 16 < y.Beyond.length) : rvN y = false := by have : ¬ y.Beyond.length ≤ 16 := by omega
                                                                           simp [rvN, this]
theorem rvN_p {y : RecvM} (h : 64 < y.Pieces.length) : rvN y = false := by have : ¬ y.Pieces.length ≤ 64 := by omega
                                                                           simp [rvN, this]
theorem rvN_n {y : RecvM} (h : y.Next.length ≠ 10) : rvN y = false := by simp [rvN, h]
theorem rvN_y {y : RecvM} (h : ¬ 16 < y.Beyond.length) (k : ¬ 64 < y.Pieces.length) (n : y.Next.length = 10) : rvN y = true := by
  have h' : y.Beyond.length ≤ 16 := by omega
  have k' : y.Pieces.length ≤ 64 := by omega
  simp [rvN, h', k', n]
theorem rvF_zero {y : RecvM} (h : rvF y = 0) : wB y.Cum = true ∧ rvN y = true ∧ byF y.Cum 1 y.Beyond = 0 ∧ psF y.Cum y.Beyond none y.Pieces = 0 ∧ nxF y.Next = 0 := by
  unfold rvF at h
  split at h
  · next h1 =>
    split at h
    · next h2 =>
      split at h
      · next h3 =>
        split at h
        · next h4 => exact ⟨h1, h2, h3, h4, h⟩
        · next h4 => exact absurd h h4
      · next h3 => exact absurd h h3
    · cases h
  · cases h
theorem pdF_tsn {d : DataM} (h : pdF d = 0) : wB d.Tsn = true := by
  unfold pdF at h
  cases h1 : wB d.Tsn
  · rw [h1] at h; simp at h
  · rfl
end Go.Proofs.Ythljdikcpdokdaa
