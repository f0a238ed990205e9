/- Chapter 6 on numbers: secrets, vectors, keys. -/
import Derived.Test.YtjjileefdjjijaaTySec
import Derived.Test.YtjjileefdjjijaaTyBR
import Derived.Test.YtjjileefdjjijaaP5
namespace Go.Proofs.Ytjjileefdjjijaa
open Go.RowKit Go.Deep

def secF (x : SecretM) : Int := if inB x.Id 0 99 then (if x.Bytes.length ≤ 40 then 0 else 2) else 3
/-- The first fault of a list; is it in order. -/
def secsF : List SecretM → Int
  | [] => 0
  | x :: r => if secF x = 0 then secsF r else secF x
def secsO : List SecretM → Bool
  | x :: y :: r => decide (x.Id < y.Id) && secsO (y :: r)
  | _ => true
def ssF (r : List SecretM) : Int := if r.length ≤ 4 then (if secsF r = 0 then (if secsO r then 0 else 1) else secsF r) else 2
theorem secsF_cons (x : SecretM) (r : List SecretM) : secsF (x :: r) = if secF x = 0 then secsF r else secF x := rfl
theorem secsF_take : ∀ (r : List SecretM) (j : Nat) (hj : j < r.length), secsF (r.take j) = 0 → secsF (r.take (j + 1)) = secF r[j]
  | x :: r, 0, _, _ => by
    rw [List.take_succ_cons, List.take_zero, secsF_cons, List.getElem_cons_zero]
    show (if secF x = 0 then 0 else secF x) = _
    split <;> omega
  | x :: r, j + 1, hj, h => by
    rw [List.take_succ_cons, secsF_cons] at h
    rw [List.take_succ_cons, secsF_cons]
    by_cases e : secF x = 0
    · rw [if_pos e] at h ⊢
      simpa using secsF_take r j (by simpa using hj) h
    · rw [if_neg e] at h; exact absurd h e
theorem secsF_first : ∀ (r : List SecretM) (j : Nat) (hj : j < r.length), secsF (r.take j) = 0 → secF r[j] ≠ 0 → secsF r = secF r[j]
  | x :: r, 0, _, _, h => by rw [secsF_cons]; simp only [List.getElem_cons_zero] at h ⊢; rw [if_neg h]
  | x :: r, j + 1, hj, h, k => by
    rw [List.take_succ_cons, secsF_cons] at h
    rw [secsF_cons]
    by_cases e : secF x = 0
    · rw [if_pos e] at h ⊢
      simpa using secsF_first r j (by simpa using hj) h (by simpa using k)
    · rw [if_neg e] at h; exact absurd h e
/-- The first j + 1 are in order. -/
def secsUp (r : List SecretM) (j : Nat) : Prop := ∀ i, i + 1 < r.length → i + 1 ≤ j → (r.getD i ⟨0, []⟩).Id < (r.getD (i + 1) ⟨0, []⟩).Id
theorem secsO_iff : ∀ (r : List SecretM), secsO r = true ↔ ∀ i, i + 1 < r.length → (r.getD i ⟨0, []⟩).Id < (r.getD (i + 1) ⟨0, []⟩).Id
  | [] => by simp [secsO]
  | [x] => by simp [secsO]
  | x :: y :: r => by
    rw [secsO, Bool.and_eq_true, decide_eq_true_eq, secsO_iff (y :: r)]
    constructor
    · rintro ⟨h1, h2⟩ i hi
      cases i with
      | zero => simpa using h1
      | succ i => simpa using h2 i (by simpa using hi)
    · intro h
      exact ⟨by simpa using h 0 (by simp), fun i hi => by simpa using h (i + 1) (by simpa using hi)⟩
theorem secsO_up {r : List SecretM} (h : secsUp r (r.length - 1)) : secsO r = true := (secsO_iff r).2 (fun i hi => h i hi (by omega))
theorem secsO_no {r : List SecretM} {j : Nat} (hj : j + 1 < r.length) (h : (r.getD (j + 1) ⟨0, []⟩).Id ≤ (r.getD j ⟨0, []⟩).Id) : secsO r = false := by
  rw [← Bool.not_eq_true, secsO_iff]
  intro q
  have := q j hj
  omega
theorem ssF_many {r : List SecretM} (h : 4 < r.length) : ssF r = 2 := by rw [ssF, if_neg (by omega)]
theorem ssF_first {r : List SecretM} (h : r.length ≤ 4) (k : secsF r ≠ 0) : ssF r = secsF r := by rw [ssF, if_pos h, if_neg k]
theorem ssF_order {r : List SecretM} (h : r.length ≤ 4) (k : secsF r = 0) : ssF r = if secsO r then 0 else 1 := by rw [ssF, if_pos h, if_pos k]
theorem ssF_zero {r : List SecretM} (h : ssF r = 0) : r.length ≤ 4 ∧ secsF r = 0 ∧ secsO r = true := by
  unfold ssF at h
  split at h
  · next h1 =>
    split at h
    · next h2 =>
      split at h
      · next h3 => exact ⟨h1, h2, h3⟩
      · cases h
    · next h2 => exact absurd h h2
  · cases h
theorem secF_zero {x : SecretM} (h : secF x = 0) : 0 ≤ x.Id ∧ x.Id ≤ 99 ∧ x.Bytes.length ≤ 40 := by
  unfold secF inB at h
  split at h
  · next h1 =>
    simp only [Bool.and_eq_true, decide_eq_true_eq] at h1
    split at h
    · next h2 => exact ⟨h1.1, h1.2, h2⟩
    · cases h
  · cases h
theorem secsF_all : ∀ {r : List SecretM}, secsF r = 0 → ∀ x ∈ r, secF x = 0
  | [], _, _, h => by simp at h
  | y :: r, h, x, hx => by
    rw [secsF_cons] at h
    by_cases e : secF y = 0
    · rw [if_pos e] at h
      rcases List.mem_cons.1 hx with rfl | hx
      · exact e
      · exact secsF_all h x hx
    · rw [if_neg e] at h; exact absurd h e

/-! Keys. -/
def ltL : List Int → List Int → Bool
  | _, [] => false
  | [], _ :: _ => true
  | a :: x, b :: y => decide (a < b) || (a == b && ltL x y)
def jkR (s a b : List Int) : BytesResultM := if s.length ≤ 40 ∧ a.length = 20 ∧ b.length = 20 then ⟨0, s ++ (if ltL b a then b ++ a else a ++ b)⟩ else ⟨2, []⟩
def vecR (y : InitM) : BytesResultM := if inF y = 0 then ⟨0, pk y.Tag ++ y.Random⟩ else ⟨inF y, []⟩
def keyR (r : List SecretM) (k : Int) (a b : List Int) : BytesResultM := if ssF r = 0 then (match r.find? (fun x => x.Id == k) with | some x => jkR x.Bytes a b | none => ⟨4, []⟩) else ⟨ssF r, []⟩
def insS (s : SecretM) : List SecretM → List SecretM
  | [] => [s]
  | x :: r => if x.Id < s.Id then x :: insS s r else if x.Id = s.Id then s :: r else s :: x :: r
def putR (r : List SecretM) (s : SecretM) : SecretsResultM := if ssF r = 0 then (if secF s = 0 then (if (insS s r).length ≤ 4 then ⟨0, insS s r⟩ else ⟨7, []⟩) else ⟨secF s, []⟩) else ⟨ssF r, []⟩
def sameS (x y : SecretM) : Bool := x.Id == y.Id && x.Bytes == y.Bytes
def sameL : List SecretM → List SecretM → Bool
  | [], [] => true
  | x :: a, y :: b => sameS x y && sameL a b
  | _, _ => false
theorem sameS_iff (x y : SecretM) : sameS x y = true ↔ x = y := by
  cases x; cases y; simp [sameS]
theorem sameL_iff : ∀ (a b : List SecretM), sameL a b = true ↔ a = b
  | [], [] => by simp [sameL]
  | [], _ :: _ => by simp [sameL]
  | _ :: _, [] => by simp [sameL]
  | x :: a, y :: b => by rw [sameL, Bool.and_eq_true, sameS_iff, sameL_iff a b]; simp
theorem jkR_len (s a b : List Int) (_ : WfV (.bs s)) (h : tot (.bs s) ≤ 1048576) (_ : WfV (.bs a)) (_ : tot (.bs a) ≤ 1048576) (_ : WfV (.bs b)) (_ : tot (.bs b) ≤ 1048576) : vcA (jkR s a b).vs ≤ 1000000000 := by
  simp only [tot] at h
  unfold jkR
  split
  · split <;> simp [BytesResultM.vs, vcA, vc, cc] <;> omega
  · simp [BytesResultM.vs, vcA, vc, cc]
theorem vecR_len (y : InitM) (_ : WfA y.vs) (h : tot.totL y.vs ≤ 1048576) : vcA (vecR y).vs ≤ 1000000000 := by
  simp only [InitM.vs, tot.totL, tot] at h
  unfold vecR
  split
  · simp [BytesResultM.vs, vcA, vc, cc, pk]; omega
  · simp [BytesResultM.vs, vcA, vc, cc]
end Go.Proofs.Ytjjileefdjjijaa
