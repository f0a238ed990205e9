/- Chapter 5 on numbers: requests and acknowledgements; the model's l5Addr, l5AsconfFault, l5SackFault. -/
import Derived.Test.YthljdikcpdokdaaTySack
import Derived.Test.YthljdikcpdokdaaM5Data
namespace Go.Proofs.Ythljdikcpdokdaa
open Go.RowKit Go.Deep

def okOp (x : AddrOpM) : Bool := inB x.Kind 1 3 && inB x.Addr 1 255
def qaF (y : AsconfM) : Int := if wB y.Serial then (if 1 ≤ y.Ops.length ∧ y.Ops.length ≤ 4 then (if y.Ops.all okOp then 0 else 3) else 2) else 3
def opL (x : AddrOpM) : List Int := [x.Kind, x.Addr]
def qaC (y : AsconfM) : ChunkM := ⟨193, 0, pk y.Serial ++ ((y.Ops.length : Int) :: y.Ops.flatMap opL)⟩
def qaR (y : AsconfM) : ChunkResultM := crOf (qaF y) (qaC y)
/-- The gaps behind a number, each one behind the other with a number between. -/
def okGaps : Int → List GapM → Bool
  | _, [] => true
  | a, x :: r => inB x.From 2 x.To && inB x.To 2 65535 && decide (a + 1 < x.From) && okGaps x.To r
theorem okGaps_cons (a : Int) (x : GapM) (r : List GapM) : okGaps a (x :: r) = (inB x.From 2 x.To && inB x.To 2 65535 && decide (a + 1 < x.From) && okGaps x.To r) := rfl
def ksF (y : SackM) : Int := if wB y.Cum then (if y.Gaps.length ≤ 20 then (if okGaps 0 y.Gaps then 0 else 1) else 2) else 3
def gapL (x : GapM) : List Int := pairL x.From ++ pairL x.To
def ksC (y : SackM) : ChunkM := ⟨3, 0, pk y.Cum ++ ((y.Gaps.length : Int) :: y.Gaps.flatMap gapL)⟩
def ksR (y : SackM) : ChunkResultM := crOf (ksF y) (ksC y)
theorem qaF_zero {y : AsconfM} (h : qaF y = 0) : (0 ≤ y.Serial ∧ y.Serial ≤ 4294967295) ∧ (1 ≤ y.Ops.length ∧ y.Ops.length ≤ 4) ∧ y.Ops.all okOp = true := by
  unfold qaF wB inB at h
  split at h
  · next h1 =>
    simp only [Bool.and_eq_true, decide_eq_true_eq] at h1
    split at h
    · next h2 =>
      split at h
      · next h3 => exact ⟨h1, h2, h3⟩
      · cases h
    · cases h
  · cases h
theorem ksF_zero {y : SackM} (h : ksF y = 0) : (0 ≤ y.Cum ∧ y.Cum ≤ 4294967295) ∧ y.Gaps.length ≤ 20 ∧ okGaps 0 y.Gaps = true := by
  unfold ksF wB inB at h
  split at h
  · next h1 =>
    simp only [Bool.and_eq_true, decide_eq_true_eq] at h1
    split at h
    · next h2 =>
      split at h
      · next h3 => exact ⟨h1, h2, h3⟩
      · cases h
    · cases h
  · cases h
theorem all_take {α : Type} {f : α → Bool} {l : List α} {j : Nat} (hj : j < l.length) (h : (l.take j).all f = true) (k : f l[j] = true) : (l.take (j + 1)).all f = true := by
  rw [List.take_add_one, List.getElem?_eq_getElem hj, Option.toList_some, List.all_append, h]
  simp [k]
theorem all_not {α : Type} {f : α → Bool} {l : List α} {j : Nat} (hj : j < l.length) (k : f l[j] = false) : ¬ l.all f = true := by
  intro h
  rw [List.all_eq_true] at h
  have := h _ (List.getElem_mem hj)
  rw [k] at this
  cases this
end Go.Proofs.Ythljdikcpdokdaa
