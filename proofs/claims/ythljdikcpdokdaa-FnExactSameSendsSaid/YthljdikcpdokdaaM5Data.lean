/- Chapter 5 on numbers: data. -/
import Derived.Test.YthljdikcpdokdaaTyData
import Derived.Test.YthljdikcpdokdaaPack
import Derived.Test.YthljdikcpdokdaaChS
namespace Go.Proofs.Ythljdikcpdokdaa
open Go.RowKit Go.Deep

theorem bsOf {w : World} {l : List Int} {A : Option Addr} {n c : Nat} (h : Rd w (.bs l) (.slice A n c)) : Bs w A l := by
  obtain ⟨A', c', e, _, hb⟩ := h.bs_out
  injection e with e1 e2 e3
  subst e1
  exact hb
def pairL (n : Int) : List Int := [n / 256, n % 256]
def bitN (b : Bool) (k : Int) : Int := if b then k else 0
/-- The fault of a data, its chunk, PackData's answer. -/
def pdF (y : DataM) : Int := if wB y.Tsn && inB y.Stream 0 9 && inB y.Seq 0 65535 then (if 1 ≤ y.Piece.length ∧ y.Piece.length ≤ 100 then (if y.Unordered = true ∧ y.Seq ≠ 0 then 1 else 0) else 2) else 3
def pdC (y : DataM) : ChunkM := ⟨0, bitN y.Last 1 + bitN y.First 2 + bitN y.Unordered 4, pk y.Tsn ++ pairL y.Stream ++ pairL y.Seq ++ y.Piece⟩
def crOf (f : Int) (c : ChunkM) : ChunkResultM := if f = 0 then ⟨0, c.Kind, c.Flags, c.Body⟩ else ⟨f, 0, 0, []⟩
def pdR (y : DataM) : ChunkResultM := crOf (pdF y) (pdC y)
theorem pdF_zero {y : DataM} (h : pdF y = 0) : (0 ≤ y.Tsn ∧ y.Tsn ≤ 4294967295) ∧ (0 ≤ y.Stream ∧ y.Stream ≤ 9) ∧ (0 ≤ y.Seq ∧ y.Seq ≤ 65535) ∧ 1 ≤ y.Piece.length ∧ y.Piece.length ≤ 100 := by
  unfold pdF wB inB at h
  split at h
  · next h1 =>
    simp at h1
    split at h
    · next h2 => exact ⟨h1.1.1, h1.1.2, h1.2, h2.1, h2.2⟩
    · cases h
  · cases h
/-- A chunk is just the one that was made. -/
def isM (x : ChunkM) (z : ChunkResultM) : Bool := z.Code == 0 && x.Kind == z.Chunk_Kind && x.Flags == z.Chunk_Flags && x.Body == z.Chunk_Body
theorem pdR_len (y : DataM) (_ : WfA y.vs) (h : tot.totL y.vs ≤ 1048576) : vcA (pdR y).vs ≤ 1000000000 := by
  simp only [DataM.vs, tot.totL, tot] at h
  unfold pdR crOf
  split
  · simp [ChunkResultM.vs, vcA, vc, cc, pdC, pk, pairL]; omega
  · simp [ChunkResultM.vs, vcA, vc, cc]
end Go.Proofs.Ythljdikcpdokdaa
