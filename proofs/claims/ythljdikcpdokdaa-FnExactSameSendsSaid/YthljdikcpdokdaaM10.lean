/- Chapter 10 on numbers: the faults of a sender. -/
import Derived.Test.YthljdikcpdokdaaTySend
import Derived.Test.YthljdikcpdokdaaM9
namespace Go.Proofs.Ythljdikcpdokdaa
open Go.RowKit Go.Deep

/-- An item's piece. -/
def SendItemM.d (x : SendItemM) : DataM := ⟨x.Data_Tsn, x.Data_Stream, x.Data_Seq, x.Data_First, x.Data_Last, x.Data_Unordered, x.Data_Piece⟩
theorem SendItemM.vs_d (x : SendItemM) : x.vs = x.d.vs ++ [.int x.Sent, .int x.Due] := rfl
/-- The fault of an item. -/
def siF (x : SendItemM) : Int := if pdF x.d = 0 then (if inB x.Sent 0 99 && inB x.Due 0 1000000000 then 0 else 3) else pdF x.d
theorem siF_pd {x : SendItemM} (h : pdF x.d ≠ 0) : siF x = pdF x.d := if_neg h
theorem siF_ok {x : SendItemM} (h : pdF x.d = 0) : siF x = if inB x.Sent 0 99 && inB x.Due 0 1000000000 then 0 else 3 := if_pos h
theorem siF_zero {x : SendItemM} (h : siF x = 0) : pdF x.d = 0 ∧ (0 ≤ x.Sent ∧ x.Sent ≤ 99) ∧ (0 ≤ x.Due ∧ x.Due ≤ 1000000000) := by
  unfold siF at h
  split at h
  · next h1 =>
    refine ⟨h1, ?_⟩
    split at h
    · next h2 => simp [inB] at h2; exact h2
    · cases h
  · next h1 => exact absurd h h1
/-- The fault of the items, the last distance being a. -/
def itF (ak en : Int) : Int → List SendItemM → Int
  | _, [] => 0
  | a, x :: r => if siF x = 0 then (if a < gapV ak x.Data_Tsn ∧ gapV ak x.Data_Tsn < en then itF ak en (gapV ak x.Data_Tsn) r else 1) else siF x
theorem itF_step (ak en a : Int) {r : List SendItemM} {j : Nat} (hj : j < r.length) : itF ak en a (r.drop j) =
    if siF r[j] = 0 then (if a < gapV ak r[j].Data_Tsn ∧ gapV ak r[j].Data_Tsn < en then itF ak en (gapV ak r[j].Data_Tsn) (r.drop (j + 1)) else 1) else siF r[j] := by
  rw [List.drop_eq_getElem_cons hj, itF]
def sdN (y : SendM) : Bool := decide (y.Items.length ≤ 40) && decide (y.Seqs.length = 10)
/-- The fault of a sender. -/
def sdF (y : SendM) : Int :=
  if wB y.Next && wB y.Acked then (if sdN y then (if inB (gapV y.Acked y.Next) 1 1000 then (if itF y.Acked (gapV y.Acked y.Next) 0 y.Items = 0 then nxF y.Seqs else itF y.Acked (gapV y.Acked y.Next) 0 y.Items) else 1) else 2) else 3
theorem sdF_range {y : SendM} (h : (wB y.Next && wB y.Acked) = false) : sdF y = 3 := by unfold sdF; rw [h]; rfl
theorem sdF_many {y : SendM} (h : (wB y.Next && wB y.Acked) = true) (k : sdN y = false) : sdF y = 2 := by unfold sdF; rw [h, k]; rfl
theorem sdF_form {y : SendM} (h : (wB y.Next && wB y.Acked) = true) (k : sdN y = true) (g : inB (gapV y.Acked y.Next) 1 1000 = false) : sdF y = 1 := by unfold sdF; rw [h, k, g]; rfl
theorem sdF_it {y : SendM} (h : (wB y.Next && wB y.Acked) = true) (k : sdN y = true) (g : inB (gapV y.Acked y.Next) 1 1000 = true) (z : itF y.Acked (gapV y.Acked y.Next) 0 y.Items ≠ 0) : sdF y = itF y.Acked (gapV y.Acked y.Next) 0 y.Items := by
  unfold sdF; rw [h, k, g, if_pos rfl, if_pos rfl, if_pos rfl, if_neg z]
theorem sdF_nx {y : SendM} (h : (wB y.Next && wB y.Acked) = true) (k : sdN y = true) (g : inB (gapV y.Acked y.Next) 1 1000 = true) (z : itF y.Acked (gapV y.Acked y.Next) 0 y.Items = 0) : sdF y = nxF y.Seqs := by
  unfold sdF; rw [h, k, g, if_pos rfl, if_pos rfl, if_pos rfl, if_pos z]
theorem sdN_i {y : SendM} (h : 40 < y.Items.length) : sdN y = false := by
  have : ¬ y.Items.length ≤ 40 := by omega
  simp [sdN, this]
theorem sdN_s {y : SendM} (h : y.Seqs.length ≠ 10) : sdN y = false := by simp [sdN, h]
theorem sdN_y {y : SendM} (h : ¬ 40 < y.Items.length) (n : y.Seqs.length = 10) : sdN y = true := by
  have h' : y.Items.length ≤ 40 := by omega
  simp [sdN, h', n]
theorem sdF_zero {y : SendM} (h : sdF y = 0) : (wB y.Next && wB y.Acked) = true ∧ sdN y = true ∧ inB (gapV y.Acked y.Next) 1 1000 = true ∧ itF y.Acked (gapV y.Acked y.Next) 0 y.Items = 0 ∧ nxF y.Seqs = 0 := by
  unfold sdF at h
  split at h
  · next h1 =>
    split at h
    · next h2 =>
      split at h
      · next h3 =>
        split at h
        · next h4 => exact ⟨h1, h2, h3, h4, h⟩
        · next h4 => exact absurd h h4
      · cases h
    · cases h
  · cases h
/-- What a sender without fault holds. -/
structure SdOk (y : SendM) : Prop where
  next : IsW y.Next
  acked : IsW y.Acked
  items : y.Items.length ≤ 40
  seqs : y.Seqs.length = 10
  gap1 : 1 ≤ gapV y.Acked y.Next
  gap2 : gapV y.Acked y.Next ≤ 1000
  its : itF y.Acked (gapV y.Acked y.Next) 0 y.Items = 0
  nx : nxF y.Seqs = 0
theorem SdOk.of {y : SendM} (h : sdF y = 0) : SdOk y := by
  obtain ⟨h1, h2, h3, h4, h5⟩ := sdF_zero h
  rw [Bool.and_eq_true] at h1
  unfold sdN at h2
  simp at h2
  simp [inB] at h3
  exact ⟨wB_is h1.1, wB_is h1.2, h2.1, h2.2, h3.1, h3.2, h4, h5⟩
theorem SdOk.fault {y : SendM} (h : SdOk y) : sdF y = 0 := by
  have h1 : (wB y.Next && wB y.Acked) = true := by
    have := h.next; have := h.acked
    unfold IsW at *
    simp [wB, inB]; omega
  have h2 : sdN y = true := sdN_y (by have := h.items; omega) h.seqs
  have h3 : inB (gapV y.Acked y.Next) 1 1000 = true := by have := h.gap1; have := h.gap2; simp [inB]; omega
  rw [sdF_nx h1 h2 h3 h.its, h.nx]
theorem itF_mem {ak en : Int} : ∀ {r : List SendItemM} {a : Int}, itF ak en a r = 0 → ∀ x ∈ r, siF x = 0 ∧ a < gapV ak x.Data_Tsn ∧ gapV ak x.Data_Tsn < en
  | [], _, _, _, hx => by simp at hx
  | y :: r, a, h, x, hx => by
    rw [itF] at h
    split at h
    · next h1 =>
      split at h
      · next h2 =>
        rcases List.mem_cons.1 hx with rfl | hx
        · exact ⟨h1, h2⟩
        · have := itF_mem h x hx
          exact ⟨this.1, by omega, this.2.2⟩
      · cases h
    · next h1 => exact absurd h h1
theorem nxF_mem : ∀ {l : List Int}, nxF l = 0 → ∀ n ∈ l, 0 ≤ n ∧ n ≤ 65535
  | [], _, _, hn => by simp at hn
  | m :: l, h, n, hn => by
    rw [nxF] at h
    split at h
    · next h1 =>
      rcases List.mem_cons.1 hn with rfl | hn
      · simp [inB] at h1; exact h1
      · exact nxF_mem h n hn
    · cases h
end Go.Proofs.Ythljdikcpdokdaa
