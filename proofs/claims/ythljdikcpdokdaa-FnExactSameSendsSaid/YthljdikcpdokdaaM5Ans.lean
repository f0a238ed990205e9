/- Chapter 5 on numbers: answers; the model's l5AnswerFault, l5Bytes. -/
import Derived.Test.YthljdikcpdokdaaTyInit
import Derived.Test.YthljdikcpdokdaaM5Data
import Derived.Deep.LoopGhost
namespace Go.Proofs.Ythljdikcpdokdaa
open Go.RowKit Go.Deep

def okCs (l : List Int) : Prop := ∀ j, j < l.length → inB (l.getD j 0) 0 20 = true
instance (l : List Int) : Decidable (okCs l) := by unfold okCs; exact Nat.decidableBallLT l.length (fun j _ => inB (l.getD j 0) 0 20 = true)
def paF (y : AnswerM) : Int := if wB y.Serial then (if 1 ≤ y.Codes.length ∧ y.Codes.length ≤ 4 then (if okCs y.Codes then 0 else 3) else 2) else 3
def paC (y : AnswerM) : ChunkM := ⟨128, 0, pk y.Serial ++ ((y.Codes.length : Int) :: y.Codes)⟩
def paR (y : AnswerM) : ChunkResultM := crOf (paF y) (paC y)
theorem paR_len (y : AnswerM) (_ : WfA y.vs) (h : tot.totL y.vs ≤ 1048576) : vcA (paR y).vs ≤ 1000000000 := by
  simp only [AnswerM.vs, tot.totL, tot] at h
  unfold paR crOf
  split
  · simp [ChunkResultM.vs, vcA, vc, cc, paC, pk]; omega
  · simp [ChunkResultM.vs, vcA, vc, cc]
theorem paF_zero {y : AnswerM} (h : paF y = 0) : (0 ≤ y.Serial ∧ y.Serial ≤ 4294967295) ∧ (1 ≤ y.Codes.length ∧ y.Codes.length ≤ 4) ∧ okCs y.Codes := by
  unfold paF wB inB at h
  split at h
  · next h1 =>
    simp at h1
    split at h
    · next h2 =>
      split at h
      · next h3 => exact ⟨h1, h2, h3⟩
      · cases h
    · cases h
  · cases h
theorem isOf {w : World} {l : List Int} {A : Option Addr} {n c : Nat} (h : Rd w (.is l) (.slice A n c)) : Is w A l := by
  obtain ⟨A', c', e, _, hb⟩ := h.is_out
  injection e with e1 e2 e3
  subst e1
  exact hb
end Go.Proofs.Ythljdikcpdokdaa
