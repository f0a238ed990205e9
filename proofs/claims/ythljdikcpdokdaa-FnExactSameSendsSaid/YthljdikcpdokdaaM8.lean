/- Chapter 8 on numbers: messages, pieces. -/
import Derived.Test.YthljdikcpdokdaaTyMsg
import Derived.Test.YthljdikcpdokdaaM5Data
namespace Go.Proofs.Ythljdikcpdokdaa
open Go.RowKit Go.Deep

theorem data_eq {x y : DataM} : x = y ↔ x.Tsn = y.Tsn ∧ x.Stream = y.Stream ∧ x.Seq = y.Seq ∧ x.First = y.First ∧ x.Last = y.Last ∧ x.Unordered = y.Unordered ∧ x.Piece = y.Piece := by cases x; cases y; simp
theorem msg_eq {x y : MessageM} : x = y ↔ x.Stream = y.Stream ∧ x.Unordered = y.Unordered ∧ x.Bytes = y.Bytes := by cases x; cases y; simp
/-- What a comparison of two lists answers. -/
def EqG {α : Type} (a b : α) (w : World) (e : Ending) (w' : World) : Prop := ∃ r : Bool, e = .returned (.bool r) ∧ (r = true ↔ a = b) ∧ Below w.heap.size w w'
open Classical in
noncomputable def sameG {α : Type} (a b : α) : Bool := decide (a = b)
theorem EqG.bol {α : Type} {a b : α} {w : World} {e : Ending} {w' : World} (h : EqG a b w e w') : e = .returned (.bool (sameG a b)) ∧ Below w.heap.size w w' := by
  obtain ⟨r, rfl, h1, h2⟩ := h
  refine ⟨?_, h2⟩
  have : r = sameG a b := by rw [Bool.eq_iff_iff, h1]; simp [sameG]
  rw [this]
/-- The fault of a message. -/
def msF (y : MessageM) : Int := if inB y.Stream 0 9 then (if 1 ≤ y.Bytes.length ∧ y.Bytes.length ≤ 400 then 0 else 2) else 3
theorem msF_out {y : MessageM} (h : inB y.Stream 0 9 = false) : msF y = 3 := by simp [msF, h]
theorem msF_none {y : MessageM} (h : inB y.Stream 0 9 = true) (k : y.Bytes.length < 1) : msF y = 2 := by simp only [msF, h, if_true]; rw [if_neg (by omega)]
theorem msF_many {y : MessageM} (h : inB y.Stream 0 9 = true) (k : 400 < y.Bytes.length) : msF y = 2 := by simp only [msF, h, if_true]; rw [if_neg (by omega)]
theorem msF_ok {y : MessageM} (h : inB y.Stream 0 9 = true) (k : ¬ y.Bytes.length < 1) (k2 : ¬ 400 < y.Bytes.length) : msF y = 0 := by simp only [msF, h, if_true]; rw [if_pos (by omega)]
theorem msF_zero {y : MessageM} (h : msF y = 0) : (0 ≤ y.Stream ∧ y.Stream ≤ 9) ∧ 1 ≤ y.Bytes.length ∧ y.Bytes.length ≤ 400 := by
  unfold msF inB at h
  split at h
  · next h1 =>
    simp at h1
    split at h
    · next h2 => exact ⟨h1, h2⟩
    · cases h
  · cases h
/-- The pieces that a message is cut into. -/
def cutAt (y : MessageM) (s : Nat) (t q : Int) (i : Nat) : DataM := ⟨(t + i) % 4294967296, y.Stream, q, decide (i = 0), decide (y.Bytes.length ≤ (i + 1) * s), y.Unordered, (y.Bytes.drop (i * s)).take s⟩
def cutN (k s : Nat) : Nat := (k + s - 1) / s
def cutL (y : MessageM) (s : Nat) (t q : Int) : List DataM := (List.range (cutN y.Bytes.length s)).map (cutAt y s t q)
def cutF (y : MessageM) (s t q : Int) : Int := if msF y = 0 then (if inB s 4 100 && wB t && inB q 0 65535 then (if y.Unordered = true ∧ q ≠ 0 then 1 else 0) else 3) else msF y
def cutR (y : MessageM) (s t q : Int) : DatasResultM := if cutF y s t q = 0 then ⟨0, cutL y s.toNat t q⟩ else ⟨cutF y s t q, []⟩
theorem cutL_len (y : MessageM) (s : Nat) (t q : Int) : (cutL y s t q).length = cutN y.Bytes.length s := by simp [cutL]
theorem cutN_le {k s : Nat} (hs : 4 ≤ s) (hk : k ≤ 400) : cutN k s ≤ 100 := by
  unfold cutN
  have : (k + s - 1) / s < 101 := (Nat.div_lt_iff_lt_mul (by omega)).2 (by omega)
  omega
/-- The pieces of one message, all of them and in order. -/
def dat0 : DataM := ⟨0, 0, 0, false, false, false, []⟩
def fits (x y : DataM) : Prop := x.Last = false ∧ y.First = false ∧ x.Stream = y.Stream ∧ x.Seq = y.Seq ∧ x.Unordered = y.Unordered ∧ y.Tsn = (x.Tsn + 1) % 4294967296
def whole (r : List DataM) : Prop := (r.getD 0 dat0).First = true ∧ (r.getD (r.length - 1) dat0).Last = true ∧ ∀ i, i + 1 < r.length → fits (r.getD i dat0) (r.getD (i + 1) dat0)
def pdsF : List DataM → Int
  | [] => 0
  | x :: r => if pdF x = 0 then pdsF r else pdF x
theorem pdsF_take : ∀ (r : List DataM) (j : Nat) (hj : j < r.length), pdsF (r.take j) = 0 → pdsF (r.take (j + 1)) = pdF r[j]
  | x :: r, 0, _, _ => by simp only [List.take_succ_cons, List.take_zero, pdsF, List.getElem_cons_zero]; split <;> simp_all
  | x :: r, j + 1, hj, h => by
    simp only [List.take_succ_cons, pdsF] at h ⊢
    split at h
    · next h1 => rw [if_pos h1, pdsF_take r j (by simpa using hj) h]; simp
    · next h1 => exact absurd h h1
theorem pdsF_first : ∀ (r : List DataM) (j : Nat) (hj : j < r.length), pdsF (r.take j) = 0 → pdF r[j] ≠ 0 → pdsF r = pdF r[j]
  | x :: r, 0, _, _, h => by simp only [List.getElem_cons_zero] at h ⊢; simp [pdsF, h]
  | x :: r, j + 1, hj, h, k => by
    simp only [List.take_succ_cons, pdsF] at h ⊢
    split at h
    · next h1 => rw [if_pos h1]; simpa using pdsF_first r j (by simpa using hj) h (by simpa using k)
    · next h1 => exact absurd h h1
theorem pdsF_all : ∀ (r : List DataM), pdsF r = 0 → ∀ x ∈ r, pdF x = 0
  | [], _, x, hx => by simp at hx
  | y :: r, h, x, hx => by
    simp only [pdsF] at h
    split at h
    · next h1 =>
      rcases List.mem_cons.1 hx with rfl | hx
      · exact h1
      · exact pdsF_all r h x hx
    · next h1 => exact absurd h h1
def jnM (r : List DataM) : MessageM := ⟨(r.getD 0 dat0).Stream, (r.getD 0 dat0).Unordered, r.flatMap DataM.Piece⟩
open Classical in
noncomputable def jnF (r : List DataM) : Int := if 1 ≤ r.length ∧ r.length ≤ 100 then (if pdsF r = 0 then (if whole r then msF (jnM r) else 1) else pdsF r) else 2
noncomputable def jnR (r : List DataM) : MessageResultM := if jnF r = 0 then ⟨0, (jnM r).Stream, (jnM r).Unordered, (jnM r).Bytes⟩ else ⟨jnF r, 0, false, []⟩
theorem jnF_many {r : List DataM} (h : ¬ (1 ≤ r.length ∧ r.length ≤ 100)) : jnF r = 2 := by unfold jnF; rw [if_neg h]
theorem jnF_data {r : List DataM} (h : 1 ≤ r.length ∧ r.length ≤ 100) (k : pdsF r ≠ 0) : jnF r = pdsF r := by unfold jnF; rw [if_pos h, if_neg k]
theorem jnF_form {r : List DataM} (h : 1 ≤ r.length ∧ r.length ≤ 100) (k : pdsF r = 0) (k2 : ¬ whole r) : jnF r = 1 := by unfold jnF; rw [if_pos h, if_pos k, if_neg k2]
theorem jnF_msg {r : List DataM} (h : 1 ≤ r.length ∧ r.length ≤ 100) (k : pdsF r = 0) (k2 : whole r) : jnF r = msF (jnM r) := by unfold jnF; rw [if_pos h, if_pos k, if_pos k2]
theorem jnR_bad {r : List DataM} {f : Int} (h : jnF r = f) (k : f ≠ 0) : jnR r = ⟨f, 0, false, []⟩ := by unfold jnR; rw [h, if_neg k]
theorem jnR_ok {r : List DataM} (h : jnF r = 0) : jnR r = ⟨0, (jnM r).Stream, (jnM r).Unordered, (jnM r).Bytes⟩ := by unfold jnR; rw [if_pos h]
theorem jn_len : ∀ {r : List DataM}, (∀ x ∈ r, pdF x = 0) → (r.flatMap DataM.Piece).length ≤ r.length * 100
  | [], _ => by simp
  | x :: r, h => by
    have h1 := (pdF_zero (h x (by simp))).2.2.2.2
    have h2 := jn_len (r := r) (fun y hy => h y (by simp [hy]))
    rw [List.flatMap_cons, List.length_append, List.length_cons]; omega
end Go.Proofs.Ythljdikcpdokdaa
