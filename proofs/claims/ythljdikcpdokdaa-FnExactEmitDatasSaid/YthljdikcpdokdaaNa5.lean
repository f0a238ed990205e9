import Derived.Test.YthljdikcpdokdaaTyMsg
import Derived.Test.YthljdikcpdokdaaTyData
import Derived.Test.YthljdikcpdokdaaNa1
import Derived.Test.YthljdikcpdokdaaNa3
import Derived.Test.YthljdikcpdokdaaNa0
import Derived.Test.YthljdikcpdokdaaTySend
import Derived.Laws.Slices
import Derived.Test.YthljdikcpdokdaaNa2
import Derived.Test.YthljdikcpdokdaaNa4

/- A receiver and its result (WRITTEN BY tools/kinds.py) -/
namespace Go.Proofs.Ythljdikcpdokdaa
open Go.RowKit Go.Deep Go.ChangeShapes Go.WideShapes Go.ChangeAt

structure RecvM where
  Cum : Int
  Beyond : List Int
  Pieces : List DataM
  Next : List Int
def RecvM.vs (x : RecvM) : List V := [.int x.Cum, .is x.Beyond, st_Data x.Pieces, .is x.Next]
theorem shape_Recv {w : World} {n0 : Int} {l1 : List Int} {r2 : List DataM} {l3 : List Int} {vs : List Value} (h : RdA w [.int n0, .is l1, st_Data r2, .is l3] vs) : ∃ (A1 : Option Addr) (c1 : Nat) (A2 : Option Addr) (c2 : Nat) (A3 : Option Addr) (c3 : Nat), vs = [.int .i64 n0, .slice A1 l1.length c1, .slice A2 r2.length c2, .slice A3 l3.length c3] := by
  obtain ⟨q0, e0, t0⟩ := h.int_out
  subst e0
  obtain ⟨v1, q1, e1, h1, t1⟩ := t0.any_out
  obtain ⟨A1, c1, a1⟩ := h1.is_sh
  subst e1 a1
  obtain ⟨v2, q2, e2, h2, t2⟩ := t1.any_out
  obtain ⟨A2, c2, a2⟩ := st_Data_sh h2
  subst e2 a2
  obtain ⟨v3, q3, e3, h3, t3⟩ := t2.any_out
  obtain ⟨A3, c3, a3⟩ := h3.is_sh
  subst e3 a3
  have z := t3.nil_out
  subst z
  exact ⟨A1, c1, A2, c2, A3, c3, rfl⟩
theorem cnt_Recv (y : RecvM) (h : tot.totL y.vs ≤ 1048576) : vcA y.vs ≤ 1000000000 := by
  have cData := ccS_Data
  simp only [RecvM.vs, vcA, vc, tot.totL, tot, cc, st_Data] at *
  have d2 := cData y.Pieces
  omega
theorem mem_Recv {w : World} {g o : Nat} {y : RecvM} (h : RdL w y.vs g o) : ∃ (A1 : Option Addr) (c1 : Nat) (A2 : Option Addr) (c2 : Nat) (A3 : Option Addr) (c3 : Nat), w.cell? ⟨g, o, none⟩ = some (.int .i64 y.Cum) ∧ w.cell? ⟨g, o + 1, none⟩ = some (.slice A1 y.Beyond.length c1) ∧ w.cell? ⟨g, o + 2, none⟩ = some (.slice A2 y.Pieces.length c2) ∧ w.cell? ⟨g, o + 3, none⟩ = some (.slice A3 y.Next.length c3) ∧ Rd w (.is y.Beyond) (.slice A1 y.Beyond.length c1) ∧ Rd w (st_Data y.Pieces) (.slice A2 y.Pieces.length c2) ∧ Rd w (.is y.Next) (.slice A3 y.Next.length c3) := by
  obtain ⟨u0, p0, t0⟩ := h.get? 0 (.int y.Cum) rfl
  have e0 := t0.int_out
  subst e0
  obtain ⟨u1, p1, t1⟩ := h.get? 1 (.is y.Beyond) rfl
  obtain ⟨A1, c1, e1⟩ := t1.is_sh
  subst e1
  obtain ⟨u2, p2, t2⟩ := h.get? 2 (st_Data y.Pieces) rfl
  obtain ⟨A2, c2, e2⟩ := st_Data_sh t2
  subst e2
  obtain ⟨u3, p3, t3⟩ := h.get? 3 (.is y.Next) rfl
  obtain ⟨A3, c3, e3⟩ := t3.is_sh
  subst e3
  rw [Nat.add_zero] at p0
  exact ⟨A1, c1, A2, c2, A3, c3, p0, p1, p2, p3, t1, t2, t3⟩
structure RecvResultM where
  Code : Int
  Recv_Cum : Int
  Recv_Beyond : List Int
  Recv_Pieces : List DataM
  Recv_Next : List Int
  Twice : Bool
  Messages : List MessageM
def RecvResultM.vs (x : RecvResultM) : List V := [.int x.Code, .int x.Recv_Cum, .is x.Recv_Beyond, st_Data x.Recv_Pieces, .is x.Recv_Next, .bool x.Twice, st_Message x.Messages]
theorem shape_RecvResult {w : World} {n0 : Int} {n1 : Int} {l2 : List Int} {r3 : List DataM} {l4 : List Int} {b5 : Bool} {r6 : List MessageM} {vs : List Value} (h : RdA w [.int n0, .int n1, .is l2, st_Data r3, .is l4, .bool b5, st_Message r6] vs) : ∃ (A2 : Option Addr) (c2 : Nat) (A3 : Option Addr) (c3 : Nat) (A4 : Option Addr) (c4 : Nat) (A6 : Option Addr) (c6 : Nat), vs = [.int .i64 n0, .int .i64 n1, .slice A2 l2.length c2, .slice A3 r3.length c3, .slice A4 l4.length c4, .bool b5, .slice A6 r6.length c6] := by
  obtain ⟨q0, e0, t0⟩ := h.int_out
  subst e0
  obtain ⟨q1, e1, t1⟩ := t0.int_out
  subst e1
  obtain ⟨v2, q2, e2, h2, t2⟩ := t1.any_out
  obtain ⟨A2, c2, a2⟩ := h2.is_sh
  subst e2 a2
  obtain ⟨v3, q3, e3, h3, t3⟩ := t2.any_out
  obtain ⟨A3, c3, a3⟩ := st_Data_sh h3
  subst e3 a3
  obtain ⟨v4, q4, e4, h4, t4⟩ := t3.any_out
  obtain ⟨A4, c4, a4⟩ := h4.is_sh
  subst e4 a4
  obtain ⟨q5, e5, t5⟩ := t4.bool_out
  subst e5
  obtain ⟨v6, q6, e6, h6, t6⟩ := t5.any_out
  obtain ⟨A6, c6, a6⟩ := st_Message_sh h6
  subst e6 a6
  have z := t6.nil_out
  subst z
  exact ⟨A2, c2, A3, c3, A4, c4, A6, c6, rfl⟩
theorem cnt_RecvResult (y : RecvResultM) (h : tot.totL y.vs ≤ 1048576) : vcA y.vs ≤ 1000000000 := by
  have cData := ccS_Data
  have cMessage := ccS_Message
  simp only [RecvResultM.vs, vcA, vc, tot.totL, tot, cc, st_Data, st_Message] at *
  have d3 := cData y.Recv_Pieces
  have d6 := cMessage y.Messages
  omega
theorem mem_RecvResult {w : World} {g o : Nat} {y : RecvResultM} (h : RdL w y.vs g o) : ∃ (A2 : Option Addr) (c2 : Nat) (A3 : Option Addr) (c3 : Nat) (A4 : Option Addr) (c4 : Nat) (A6 : Option Addr) (c6 : Nat), w.cell? ⟨g, o, none⟩ = some (.int .i64 y.Code) ∧ w.cell? ⟨g, o + 1, none⟩ = some (.int .i64 y.Recv_Cum) ∧ w.cell? ⟨g, o + 2, none⟩ = some (.slice A2 y.Recv_Beyond.length c2) ∧ w.cell? ⟨g, o + 3, none⟩ = some (.slice A3 y.Recv_Pieces.length c3) ∧ w.cell? ⟨g, o + 4, none⟩ = some (.slice A4 y.Recv_Next.length c4) ∧ w.cell? ⟨g, o + 5, none⟩ = some (.bool y.Twice) ∧ w.cell? ⟨g, o + 6, none⟩ = some (.slice A6 y.Messages.length c6) ∧ Rd w (.is y.Recv_Beyond) (.slice A2 y.Recv_Beyond.length c2) ∧ Rd w (st_Data y.Recv_Pieces) (.slice A3 y.Recv_Pieces.length c3) ∧ Rd w (.is y.Recv_Next) (.slice A4 y.Recv_Next.length c4) ∧ Rd w (st_Message y.Messages) (.slice A6 y.Messages.length c6) := by
  obtain ⟨u0, p0, t0⟩ := h.get? 0 (.int y.Code) rfl
  have e0 := t0.int_out
  subst e0
  obtain ⟨u1, p1, t1⟩ := h.get? 1 (.int y.Recv_Cum) rfl
  have e1 := t1.int_out
  subst e1
  obtain ⟨u2, p2, t2⟩ := h.get? 2 (.is y.Recv_Beyond) rfl
  obtain ⟨A2, c2, e2⟩ := t2.is_sh
  subst e2
  obtain ⟨u3, p3, t3⟩ := h.get? 3 (st_Data y.Recv_Pieces) rfl
  obtain ⟨A3, c3, e3⟩ := st_Data_sh t3
  subst e3
  obtain ⟨u4, p4, t4⟩ := h.get? 4 (.is y.Recv_Next) rfl
  obtain ⟨A4, c4, e4⟩ := t4.is_sh
  subst e4
  obtain ⟨u5, p5, t5⟩ := h.get? 5 (.bool y.Twice) rfl
  have e5 := t5.bool_out
  subst e5
  obtain ⟨u6, p6, t6⟩ := h.get? 6 (st_Message y.Messages) rfl
  obtain ⟨A6, c6, e6⟩ := st_Message_sh t6
  subst e6
  rw [Nat.add_zero] at p0
  exact ⟨A2, c2, A3, c3, A4, c4, A6, c6, p0, p1, p2, p3, p4, p5, p6, t2, t3, t4, t6⟩
end Go.Proofs.Ythljdikcpdokdaa

/- Chapter 5 on numbers: data. -/
namespace Go.Proofs.Ythljdikcpdokdaa
open Go.RowKit Go.Deep

theorem bsOf {w : World} {l : List Int} {A : Option Addr} {n c : Nat} (h : Rd w (.bs l) (.slice A n c)) : Bs w A l := by
  obtain ⟨A', c', e, _, hb⟩ := h.bs_out
  injection e with e1 e2 e3
  subst e1
  exact hb
def pairL (n : Int) : List Int := [n / 256, n % 256]
def bitN (b : Bool) (k : Int) : Int := if b then k else 0
/-- The fault of a data, its chunk, PackData's answer. -/
def pdF (y : DataM) : Int := if wB y.Tsn && inB y.Stream 0 9 && inB y.Seq 0 65535 then (if 1 ≤ y.Piece.length ∧ y.Piece.length ≤ 100 then (if y.Unordered = true ∧ y.Seq ≠ 0 then 1 else 0) else 2) else 3
def pdC (y : DataM) : ChunkM := ⟨0, bitN y.Last 1 + bitN y.First 2 + bitN y.Unordered 4, pk y.Tsn ++ pairL y.Stream ++ pairL y.Seq ++ y.Piece⟩
def crOf (f : Int) (c : ChunkM) : ChunkResultM := if f = 0 then ⟨0, c.Kind, c.Flags, c.Body⟩ else ⟨f, 0, 0, []⟩
def pdR (y : DataM) : ChunkResultM := crOf (pdF y) (pdC y)
theorem pdF_zero {y : DataM} (h : pdF y = 0) : (0 ≤ y.Tsn ∧ y.Tsn ≤ 4294967295) ∧ (0 ≤ y.Stream ∧ y.Stream ≤ 9) ∧ (0 ≤ y.Seq ∧ y.Seq ≤ 65535) ∧ 1 ≤ y.Piece.length ∧ y.Piece.length ≤ 100 := by
  unfold pdF wB inB at h
  split at h
  · next h1 =>
    simp at h1
    split at h
    · next h2 => exact ⟨h1.1.1, h1.1.2, h1.2, h2.1, h2.2⟩
    · cases h
  · cases h
/-- A chunk is just the one that was made. -/
def isM (x : ChunkM) (z : ChunkResultM) : Bool := z.Code == 0 && x.Kind == z.Chunk_Kind && x.Flags == z.Chunk_Flags && x.Body == z.Chunk_Body
theorem pdR_len (y : DataM) (_ : WfA y.vs) (h : tot.totL y.vs ≤ 1048576) : vcA (pdR y).vs ≤ 1000000000 := by
  simp only [DataM.vs, tot.totL, tot] at h
  unfold pdR crOf
  split
  · simp [ChunkResultM.vs, vcA, vc, cc, pdC, pk, pairL]; omega
  · simp [ChunkResultM.vs, vcA, vc, cc]
end Go.Proofs.Ythljdikcpdokdaa

/- Chapter 8 on numbers: messages, pieces. -/
namespace Go.Proofs.Ythljdikcpdokdaa
open Go.RowKit Go.Deep

theorem data_eq {x y : DataM} : x = y ↔ x.Tsn = y.Tsn ∧ x.Stream = y.Stream ∧ x.Seq = y.Seq ∧ x.First = y.First ∧ x.Last = y.Last ∧ x.Unordered = y.Unordered ∧ x.Piece = y.Piece := by cases x; cases y; simp
theorem msg_eq {x y : MessageM} : x = y ↔ x.Stream = y.Stream ∧ x.Unordered = y.Unordered ∧ x.Bytes = y.Bytes := by cases x; cases y; simp
/-- What a comparison of two lists answers. -/
def EqG {α : Type} (a b : α) (w : World) (e : Ending) (w' : World) : Prop := ∃ r : Bool, e = .returned (.bool r) ∧ (r = true ↔ a = b) ∧ Below w.heap.size w w'
open Classical in
noncomputable def sameG {α : Type} (a b : α) : Bool := decide (a = b)
theorem EqG.bol {α : Type} {a b : α} {w : World} {e : Ending} {w' : World} (h : EqG a b w e w') : e = .returned (.bool (sameG a b)) ∧ Below w.heap.size w w' := by
  obtain ⟨r, rfl, h1, h2⟩ := h
  refine ⟨?_, h2⟩
  have : r = sameG a b := by rw [Bool.eq_iff_iff, h1]; simp [sameG]
  rw [this]
/-- The fault of a message. -/
def msF (y : MessageM) : Int := if inB y.Stream 0 9 then (if 1 ≤ y.Bytes.length ∧ y.Bytes.length ≤ 400 then 0 else 2) else 3
theorem msF_out {y : MessageM} (h : inB y.Stream 0 9 = false) : msF y = 3 := by simp [msF, h]
theorem msF_none {y : MessageM} (h : inB y.Stream 0 9 = true) (k : y.Bytes.length < 1) : msF y = 2 := by simp only [msF, h, if_true]; rw [if_neg (by omega)]
theorem msF_many {y : MessageM} (h : inB y.Stream 0 9 = true) (k : 400 < y.Bytes.length) : msF y = 2 := by simp only [msF, h, if_true]; rw [if_neg (by omega)]
theorem msF_ok {y : MessageM} (h : inB y.Stream 0 9 = true) (k : ¬ y.Bytes.length < 1) (k2 : ¬ 400 < y.Bytes.length) : msF y = 0 := by simp only [msF, h, if_true]; rw [if_pos (by omega)]
theorem msF_zero {y : MessageM} (h : msF y = 0) : (0 ≤ y.Stream ∧ y.Stream ≤ 9) ∧ 1 ≤ y.Bytes.length ∧ y.Bytes.length ≤ 400 := by
  unfold msF inB at h
  split at h
  · next h1 =>
    simp at h1
    split at h
    · next h2 => exact ⟨h1, h2⟩
    · cases h
  · cases h
/-- The pieces that a message is cut into. -/
def cutAt (y : MessageM) (s : Nat) (t q : Int) (i : Nat) : DataM := ⟨(t + i) % 4294967296, y.Stream, q, decide (i = 0), decide (y.Bytes.length ≤ (i + 1) * s), y.Unordered, (y.Bytes.drop (i * s)).take s⟩
def cutN (k s : Nat) : Nat := (k + s - 1) / s
def cutL (y : MessageM) (s : Nat) (t q : Int) : List DataM := (List.range (cutN y.Bytes.length s)).map (cutAt y s t q)
def cutF (y : MessageM) (s t q : Int) : Int := if msF y = 0 then (if inB s 4 100 && wB t && inB q 0 65535 then (if y.Unordered = true ∧ q ≠ 0 then 1 else 0) else 3) else msF y
def cutR (y : MessageM) (s t q : Int) : DatasResultM := if cutF y s t q = 0 then ⟨0, cutL y s.toNat t q⟩ else ⟨cutF y s t q, []⟩
theorem cutL_len (y : MessageM) (s : Nat) (t q : Int) : (cutL y s t q).length = cutN y.Bytes.length s := by simp [cutL]
theorem cutN_le {k s : Nat} (hs : 4 ≤ s) (hk : k ≤ 400) : cutN k s ≤ 100 := by
  unfold cutN
  have : (k + s - 1) / s < 101 := (Nat.div_lt_iff_lt_mul (by omega)).2 (by omega)
  omega
/-- The pieces of one message, all of them and in order. -/
def dat0 : DataM := ⟨0, 0, 0, false, false, false, []⟩
def fits (x y : DataM) : Prop := x.Last = false ∧ y.First = false ∧ x.Stream = y.Stream ∧ x.Seq = y.Seq ∧ x.Unordered = y.Unordered ∧ y.Tsn = (x.Tsn + 1) % 4294967296
def whole (r : List DataM) : Prop := (r.getD 0 dat0).First = true ∧ (r.getD (r.length - 1) dat0).Last = true ∧ ∀ i, i + 1 < r.length → fits (r.getD i dat0) (r.getD (i + 1) dat0)
def pdsF : List DataM → Int
  | [] => 0
  | x :: r => if pdF x = 0 then pdsF r else pdF x
theorem pdsF_take : ∀ (r : List DataM) (j : Nat) (hj : j < r.length), pdsF (r.take j) = 0 → pdsF (r.take (j + 1)) = pdF r[j]
  | x :: r, 0, _, _ => by simp only [List.take_succ_cons, List.take_zero, pdsF, List.getElem_cons_zero]; split <;> simp_all
  | x :: r, j + 1, hj, h => by
    simp only [List.take_succ_cons, pdsF] at h ⊢
    split at h
    · next h1 => rw [if_pos h1, pdsF_take r j (by simpa using hj) h]; simp
    · next h1 => exact absurd h h1
theorem pdsF_first : ∀ (r : List DataM) (j : Nat) (hj : j < r.length), pdsF (r.take j) = 0 → pdF r[j] ≠ 0 → pdsF r = pdF r[j]
  | x :: r, 0, _, _, h => by simp only [List.getElem_cons_zero] at h ⊢; simp [pdsF, h]
  | x :: r, j + 1, hj, h, k => by
    simp only [List.take_succ_cons, pdsF] at h ⊢
    split at h
    · next h1 => rw [if_pos h1]; simpa using pdsF_first r j (by simpa using hj) h (by simpa using k)
    · next h1 => exact absurd h h1
theorem pdsF_all : ∀ (r : List DataM), pdsF r = 0 → ∀ x ∈ r, pdF x = 0
  | [], _, x, hx => by simp at hx
  | y :: r, h, x, hx => by
    simp only [pdsF] at h
    split at h
    · next h1 =>
      rcases List.mem_cons.1 hx with rfl | hx
      · exact h1
      · exact pdsF_all r h x hx
    · next h1 => exact absurd h h1
def jnM (r : List DataM) : MessageM := ⟨(r.getD 0 dat0).Stream, (r.getD 0 dat0).Unordered, r.flatMap DataM.Piece⟩
open Classical in
noncomputable def jnF (r : List DataM) : Int := if 1 ≤ r.length ∧ r.length ≤ 100 then (if pdsF r = 0 then (if whole r then msF (jnM r) else 1) else pdsF r) else 2
noncomputable def jnR (r : List DataM) : MessageResultM := if jnF r = 0 then ⟨0, (jnM r).Stream, (jnM r).Unordered, (jnM r).Bytes⟩ else ⟨jnF r, 0, false, []⟩
theorem jnF_many {r : List DataM} (h : ¬ (1 ≤ r.length ∧ r.length ≤ 100)) : jnF r = 2 := by unfold jnF; rw [if_neg h]
theorem jnF_data {r : List DataM} (h : 1 ≤ r.length ∧ r.length ≤ 100) (k : pdsF r ≠ 0) : jnF r = pdsF r := by unfold jnF; rw [if_pos h, if_neg k]
theorem jnF_form {r : List DataM} (h : 1 ≤ r.length ∧ r.length ≤ 100) (k : pdsF r = 0) (k2 : ¬ whole r) : jnF r = 1 := by unfold jnF; rw [if_pos h, if_pos k, if_neg k2]
theorem jnF_msg {r : List DataM} (h : 1 ≤ r.length ∧ r.length ≤ 100) (k : pdsF r = 0) (k2 : whole r) : jnF r = msF (jnM r) := by unfold jnF; rw [if_pos h, if_pos k, if_pos k2]
theorem jnR_bad {r : List DataM} {f : Int} (h : jnF r = f) (k : f ≠ 0) : jnR r = ⟨f, 0, false, []⟩ := by unfold jnR; rw [h, if_neg k]
theorem jnR_ok {r : List DataM} (h : jnF r = 0) : jnR r = ⟨0, (jnM r).Stream, (jnM r).Unordered, (jnM r).Bytes⟩ := by unfold jnR; rw [if_pos h]
theorem jn_len : ∀ {r : List DataM}, (∀ x ∈ r, pdF x = 0) → (r.flatMap DataM.Piece).length ≤ r.length * 100
  | [], _ => by simp
  | x :: r, h => by
    have h1 := (pdF_zero (h x (by simp))).2.2.2.2
    have h2 := jn_len (r := r) (fun y hy => h y (by simp [hy]))
    rw [List.flatMap_cons, List.length_append, List.length_cons]; omega
end Go.Proofs.Ythljdikcpdokdaa

/- What SerialLess answers, the program's and the model's, and what the comparison of two IntResults answers. No condition. -/
namespace Go.Proofs.Ythljdikcpdokdaa
open Go.RowKit

def lessB (a b : Int) : Bool := inB (gapV a b) 1 2147483647
theorem gapV_no {a b : Int} (h : ¬ (IsW a ∧ IsW b)) : gapV a b = 0 := by rw [gapV, if_neg h]
theorem addC_no {a b : Int} (h : ¬ (IsW a ∧ IsW b)) : addC a b = 3 := by rw [addC, if_neg h]
theorem addC_yes {a b : Int} (h : IsW a ∧ IsW b) : addC a b = 0 := by rw [addC, if_pos h]

set_option maxHeartbeats 400000 in
theorem less_impl (a b : Int) (w : World) : Calls Try.prog 174 #[.int .i64 a, .int .i64 b] w fun e w' => e = .returned (.bool (lessB a b)) ∧ Below w.heap.size w w' := by
  by_cases h : IsW a ∧ IsW b
  · have hc : (addC a b == 0) = true := by rw [addC_yes h]; rfl
    by_cases h1 : 1 ≤ gapV a b
    · have e : lessB a b = decide (gapV a b ≤ 2147483647) := by simp [lessB, inB, h1]
      rw [e]
      clear e h
      go_enter Try.func174, Try.ntmps174
      go_wp2_with (go_at_call 17; refine (gap_impl _ _ _).mono ?_; rintro e w' ⟨rfl, rfl⟩)
      go_ret
      exact ⟨rfl, bal (bal (Below.refl _ _) _) _⟩
    · have e : lessB a b = false := inB_lo (by omega)
      rw [e]
      have h2 : gapV a b < 1 := by omega
      clear e h h1
      go_enter Try.func174, Try.ntmps174
      go_wp2_with (go_at_call 17; refine (gap_impl _ _ _).mono ?_; rintro e w' ⟨rfl, rfl⟩)
      go_ret
      exact ⟨rfl, bal (bal (Below.refl _ _) _) _⟩
  · have hc : (addC a b == 0) = false := by rw [addC_no h]; rfl
    have e : lessB a b = false := by rw [lessB, gapV_no h]; rfl
    rw [e]
    clear e h
    go_enter Try.func174, Try.ntmps174
    go_wp2_with (go_at_call 17; refine (gap_impl _ _ _).mono ?_; rintro e w' ⟨rfl, rfl⟩)
    go_ret
    exact ⟨rfl, bal (bal (Below.refl _ _) _) _⟩
set_option maxHeartbeats 400000 in
theorem l1Less_any (a b : Int) (w : World) (h : IsW a ∧ IsW b) : Calls Try.prog 136 #[.int .i64 a, .int .i64 b] w fun e w' => e = .returned (.bool (lessB a b)) ∧ w = w' := by
  rw [lessB, gapV, if_pos h]
  obtain ⟨⟨h1, h2⟩, h3, h4⟩ := h
  go_enter Try.func136, Try.ntmps136
  go_wp2_with (first | (go_at_call 83; refine (l1Gap_any _ _ _ (by omega) (by omega) (by omega) (by omega)).mono ?_; rintro e w' ⟨rfl, rfl⟩) | (go_at_call 84; refine (in_any _ _ _ _).mono ?_; rintro e w' ⟨rfl, rfl⟩))
  go_ret
  exact ⟨rfl, rfl⟩
set_option maxHeartbeats 400000 in
theorem eqIR_any (c v : Int) (w : World) : Calls Try.prog 54 #[.agg #[.int .i64 c, .int .i64 v], .agg #[.int .i64 c, .int .i64 v]] w fun e w' => e = .returned (.bool true) ∧ Below w.heap.size w w' := by
  go_enter Try.func54, Try.ntmps54
  go_wp2
  go_ret
  exact ⟨rfl, bal (bal (Below.refl _ _) _) _⟩
end Go.Proofs.Ythljdikcpdokdaa

/- Chapter 9 on numbers: the faults of a receiver. -/
namespace Go.Proofs.Ythljdikcpdokdaa
open Go.RowKit Go.Deep

theorem gapV_yes {a b : Int} (ha : IsW a) (hb : IsW b) : gapV a b = (b - a) % 4294967296 := by rw [gapV, if_pos ⟨ha, hb⟩]
theorem gapV_rng (a b : Int) : 0 ≤ gapV a b ∧ gapV a b ≤ 4294967295 := by unfold gapV; split <;> omega
theorem wB_is {a : Int} (h : wB a = true) : IsW a := by
  unfold wB inB at h; simp at h; exact h
/-- The fault of the TSNs beyond Cum, the last distance being `a`. -/
def byF (cum : Int) : Int → List Int → Int
  | _, [] => 0
  | a, t :: l => if wB t then (if gapV cum t ≤ 16 then (if a < gapV cum t then byF cum (gapV cum t) l else 1) else 1) else 3
theorem getD_at9 {l : List Int} {j : Nat} (hj : j < l.length) : l.getD j 0 = l[j] := by
  rw [List.getD_eq_getElem?_getD, List.getElem?_eq_getElem hj]; rfl
theorem byF_step (cum a : Int) {l : List Int} {j : Nat} (hj : j < l.length) : byF cum a (l.drop j) =
    if wB (l.getD j 0) then (if gapV cum (l.getD j 0) ≤ 16 then (if a < gapV cum (l.getD j 0) then byF cum (gapV cum (l.getD j 0)) (l.drop (j + 1)) else 1) else 1) else 3 := by
  rw [List.drop_eq_getElem_cons hj, byF, getD_at9 hj]
/-- Whether a TSN has arrived. -/
def arrB (cum : Int) (bey : List Int) (t : Int) : Bool := !(lessB cum t) || decide (t ∈ bey)
def ordB (p : Option Int) (t : Int) : Bool := match p with | none => true | some q => lessB q t
/-- The fault of a piece, the TSN of the one ahead being `p`. -/
def poF (cum : Int) (bey : List Int) (p : Option Int) (d : DataM) : Int := if pdF d = 0 then (if ordB p d.Tsn then (if arrB cum bey d.Tsn then 0 else 8) else 1) else pdF d
def psF (cum : Int) (bey : List Int) : Option Int → List DataM → Int
  | _, [] => 0
  | p, d :: r => if poF cum bey p d = 0 then psF cum bey (some d.Tsn) r else poF cum bey p d
def prv (r : List DataM) (j : Nat) : Option Int := if j = 0 then none else (r[j - 1]?).map (·.Tsn)
theorem prv_succ {r : List DataM} {j : Nat} (hj : j < r.length) : prv r (j + 1) = some r[j].Tsn := by
  simp [prv, List.getElem?_eq_getElem hj]
theorem psF_step (cum : Int) (bey : List Int) {r : List DataM} {j : Nat} (hj : j < r.length) (h : psF cum bey (prv r j) (r.drop j) = psF cum bey none r) :
    psF cum bey none r = if poF cum bey (prv r j) r[j] = 0 then psF cum bey (prv r (j + 1)) (r.drop (j + 1)) else poF cum bey (prv r j) r[j] := by
  rw [← h, List.drop_eq_getElem_cons hj, psF, prv_succ hj]
def nxF : List Int → Int
  | [] => 0
  | n :: l => if inB n 0 65535 then nxF l else 3
theorem nxF_step {l : List Int} {j : Nat} (hj : j < l.length) : nxF (l.drop j) = if inB (l.getD j 0) 0 65535 then nxF (l.drop (j + 1)) else 3 := by
  rw [List.drop_eq_getElem_cons hj, nxF, getD_at9 hj]
/-- The fault of a receiver. -/
def rvN (y : RecvM) : Bool := decide (y.Beyond.length ≤ 16) && decide (y.Pieces.length ≤ 64) && decide (y.Next.length = 10)
def rvF (y : RecvM) : Int :=
  if wB y.Cum then (if rvN y then (if byF y.Cum 1 y.Beyond = 0 then (if psF y.Cum y.Beyond none y.Pieces = 0 then nxF y.Next else psF y.Cum y.Beyond none y.Pieces) else byF y.Cum 1 y.Beyond) else 2) else 3
theorem rvF_range {y : RecvM} (h : wB y.Cum = false) : rvF y = 3 := by unfold rvF; rw [h]; rfl
theorem rvF_many {y : RecvM} (h : wB y.Cum = true) (k : rvN y = false) : rvF y = 2 := by unfold rvF; rw [h, k]; rfl
theorem rvF_by {y : RecvM} (h : wB y.Cum = true) (k : rvN y = true) (z : byF y.Cum 1 y.Beyond ≠ 0) : rvF y = byF y.Cum 1 y.Beyond := by unfold rvF; rw [h, k, if_pos rfl, if_pos rfl, if_neg z]
theorem rvF_ps {y : RecvM} (h : wB y.Cum = true) (k : rvN y = true) (z : byF y.Cum 1 y.Beyond = 0) (q : psF y.Cum y.Beyond none y.Pieces ≠ 0) : rvF y = psF y.Cum y.Beyond none y.Pieces := by unfold rvF; rw [h, k, if_pos rfl, if_pos rfl, if_pos z, if_neg q]
theorem rvF_nx {y : RecvM} (h : wB y.Cum = true) (k : rvN y = true) (z : byF y.Cum 1 y.Beyond = 0) (q : psF y.Cum y.Beyond none y.Pieces = 0) : rvF y = nxF y.Next := by unfold rvF; rw [h, k, if_pos rfl, if_pos rfl, if_pos z, if_pos q]
theorem rvN_b {y : RecvM} (h : 16 < y.Beyond.length) : rvN y = false := by have : ¬ y.Beyond.length ≤ 16 := by omega
                                                                           simp [rvN, this]
theorem rvN_p {y : RecvM} (h : 64 < y.Pieces.length) : rvN y = false := by have : ¬ y.Pieces.length ≤ 64 := by omega
                                                                           simp [rvN, this]
theorem rvN_n {y : RecvM} (h : y.Next.length ≠ 10) : rvN y = false := by simp [rvN, h]
theorem rvN_y {y : RecvM} (h : ¬ 16 < y.Beyond.length) (k : ¬ 64 < y.Pieces.length) (n : y.Next.length = 10) : rvN y = true := by
  have h' : y.Beyond.length ≤ 16 := by omega
  have k' : y.Pieces.length ≤ 64 := by omega
  simp [rvN, h', k', n]
theorem rvF_zero {y : RecvM} (h : rvF y = 0) : wB y.Cum = true ∧ rvN y = true ∧ byF y.Cum 1 y.Beyond = 0 ∧ psF y.Cum y.Beyond none y.Pieces = 0 ∧ nxF y.Next = 0 := by
  unfold rvF at h
  split at h
  · next h1 =>
    split at h
    · next h2 =>
      split at h
      · next h3 =>
        split at h
        · next h4 => exact ⟨h1, h2, h3, h4, h⟩
        · next h4 => exact absurd h h4
      · next h3 => exact absurd h h3
    · cases h
  · cases h
theorem pdF_tsn {d : DataM} (h : pdF d = 0) : wB d.Tsn = true := by
  unfold pdF at h
  cases h1 : wB d.Tsn
  · rw [h1] at h; simp at h
  · rfl
end Go.Proofs.Ythljdikcpdokdaa

/- Chapter 10 on numbers: the faults of a sender. -/
namespace Go.Proofs.Ythljdikcpdokdaa
open Go.RowKit Go.Deep

/-- An item's piece. -/
def SendItemM.d (x : SendItemM) : DataM := ⟨x.Data_Tsn, x.Data_Stream, x.Data_Seq, x.Data_First, x.Data_Last, x.Data_Unordered, x.Data_Piece⟩
theorem SendItemM.vs_d (x : SendItemM) : x.vs = x.d.vs ++ [.int x.Sent, .int x.Due] := rfl
/-- The fault of an item. -/
def siF (x : SendItemM) : Int := if pdF x.d = 0 then (if inB x.Sent 0 99 && inB x.Due 0 1000000000 then 0 else 3) else pdF x.d
theorem siF_pd {x : SendItemM} (h : pdF x.d ≠ 0) : siF x = pdF x.d := if_neg h
theorem siF_ok {x : SendItemM} (h : pdF x.d = 0) : siF x = if inB x.Sent 0 99 && inB x.Due 0 1000000000 then 0 else 3 := if_pos h
theorem siF_zero {x : SendItemM} (h : siF x = 0) : pdF x.d = 0 ∧ (0 ≤ x.Sent ∧ x.Sent ≤ 99) ∧ (0 ≤ x.Due ∧ x.Due ≤ 1000000000) := by
  unfold siF at h
  split at h
  · next h1 =>
    refine ⟨h1, ?_⟩
    split at h
    · next h2 => simp [inB] at h2; exact h2
    · cases h
  · next h1 => exact absurd h h1
/-- The fault of the items, the last distance being a. -/
def itF (ak en : Int) : Int → List SendItemM → Int
  | _, [] => 0
  | a, x :: r => if siF x = 0 then (if a < gapV ak x.Data_Tsn ∧ gapV ak x.Data_Tsn < en then itF ak en (gapV ak x.Data_Tsn) r else 1) else siF x
theorem itF_step (ak en a : Int) {r : List SendItemM} {j : Nat} (hj : j < r.length) : itF ak en a (r.drop j) =
    if siF r[j] = 0 then (if a < gapV ak r[j].Data_Tsn ∧ gapV ak r[j].Data_Tsn < en then itF ak en (gapV ak r[j].Data_Tsn) (r.drop (j + 1)) else 1) else siF r[j] := by
  rw [List.drop_eq_getElem_cons hj, itF]
def sdN (y : SendM) : Bool := decide (y.Items.length ≤ 40) && decide (y.Seqs.length = 10)
/-- The fault of a sender. -/
def sdF (y : SendM) : Int :=
  if wB y.Next && wB y.Acked then (if sdN y then (if inB (gapV y.Acked y.Next) 1 1000 then (if itF y.Acked (gapV y.Acked y.Next) 0 y.Items = 0 then nxF y.Seqs else itF y.Acked (gapV y.Acked y.Next) 0 y.Items) else 1) else 2) else 3
theorem sdF_range {y : SendM} (h : (wB y.Next && wB y.Acked) = false) : sdF y = 3 := by unfold sdF; rw [h]; rfl
theorem sdF_many {y : SendM} (h : (wB y.Next && wB y.Acked) = true) (k : sdN y = false) : sdF y = 2 := by unfold sdF; rw [h, k]; rfl
theorem sdF_form {y : SendM} (h : (wB y.Next && wB y.Acked) = true) (k : sdN y = true) (g : inB (gapV y.Acked y.Next) 1 1000 = false) : sdF y = 1 := by unfold sdF; rw [h, k, g]; rfl
theorem sdF_it {y : SendM} (h : (wB y.Next && wB y.Acked) = true) (k : sdN y = true) (g : inB (gapV y.Acked y.Next) 1 1000 = true) (z : itF y.Acked (gapV y.Acked y.Next) 0 y.Items ≠ 0) : sdF y = itF y.Acked (gapV y.Acked y.Next) 0 y.Items := by
  unfold sdF; rw [h, k, g, if_pos rfl, if_pos rfl, if_pos rfl, if_neg z]
theorem sdF_nx {y : SendM} (h : (wB y.Next && wB y.Acked) = true) (k : sdN y = true) (g : inB (gapV y.Acked y.Next) 1 1000 = true) (z : itF y.Acked (gapV y.Acked y.Next) 0 y.Items = 0) : sdF y = nxF y.Seqs := by
  unfold sdF; rw [h, k, g, if_pos rfl, if_pos rfl, if_pos rfl, if_pos z]
theorem sdN_i {y : SendM} (h : 40 < y.Items.length) : sdN y = false := by
  have : ¬ y.Items.length ≤ 40 := by omega
  simp [sdN, this]
theorem sdN_s {y : SendM} (h : y.Seqs.length ≠ 10) : sdN y = false := by simp [sdN, h]
theorem sdN_y {y : SendM} (h : ¬ 40 < y.Items.length) (n : y.Seqs.length = 10) : sdN y = true := by
  have h' : y.Items.length ≤ 40 := by omega
  simp [sdN, h', n]
theorem sdF_zero {y : SendM} (h : sdF y = 0) : (wB y.Next && wB y.Acked) = true ∧ sdN y = true ∧ inB (gapV y.Acked y.Next) 1 1000 = true ∧ itF y.Acked (gapV y.Acked y.Next) 0 y.Items = 0 ∧ nxF y.Seqs = 0 := by
  unfold sdF at h
  split at h
  · next h1 =>
    split at h
    · next h2 =>
      split at h
      · next h3 =>
        split at h
        · next h4 => exact ⟨h1, h2, h3, h4, h⟩
        · next h4 => exact absurd h h4
      · cases h
    · cases h
  · cases h
/-- What a sender without fault holds. -/
structure SdOk (y : SendM) : Prop where
  next : IsW y.Next
  acked : IsW y.Acked
  items : y.Items.length ≤ 40
  seqs : y.Seqs.length = 10
  gap1 : 1 ≤ gapV y.Acked y.Next
  gap2 : gapV y.Acked y.Next ≤ 1000
  its : itF y.Acked (gapV y.Acked y.Next) 0 y.Items = 0
  nx : nxF y.Seqs = 0
theorem SdOk.of {y : SendM} (h : sdF y = 0) : SdOk y := by
  obtain ⟨h1, h2, h3, h4, h5⟩ := sdF_zero h
  rw [Bool.and_eq_true] at h1
  unfold sdN at h2
  simp at h2
  simp [inB] at h3
  exact ⟨wB_is h1.1, wB_is h1.2, h2.1, h2.2, h3.1, h3.2, h4, h5⟩
theorem SdOk.fault {y : SendM} (h : SdOk y) : sdF y = 0 := by
  have h1 : (wB y.Next && wB y.Acked) = true := by
    have := h.next; have := h.acked
    unfold IsW at *
    simp [wB, inB]; omega
  have h2 : sdN y = true := sdN_y (by have := h.items; omega) h.seqs
  have h3 : inB (gapV y.Acked y.Next) 1 1000 = true := by have := h.gap1; have := h.gap2; simp [inB]; omega
  rw [sdF_nx h1 h2 h3 h.its, h.nx]
theorem itF_mem {ak en : Int} : ∀ {r : List SendItemM} {a : Int}, itF ak en a r = 0 → ∀ x ∈ r, siF x = 0 ∧ a < gapV ak x.Data_Tsn ∧ gapV ak x.Data_Tsn < en
  | [], _, _, _, hx => by simp at hx
  | y :: r, a, h, x, hx => by
    rw [itF] at h
    split at h
    · next h1 =>
      split at h
      · next h2 =>
        rcases List.mem_cons.1 hx with rfl | hx
        · exact ⟨h1, h2⟩
        · have := itF_mem h x hx
          exact ⟨this.1, by omega, this.2.2⟩
      · cases h
    · next h1 => exact absurd h h1
theorem nxF_mem : ∀ {l : List Int}, nxF l = 0 → ∀ n ∈ l, 0 ≤ n ∧ n ≤ 65535
  | [], _, _, hn => by simp at hn
  | m :: l, h, n, hn => by
    rw [nxF] at h
    split at h
    · next h1 =>
      rcases List.mem_cons.1 hn with rfl | hn
      · simp [inB] at h1; exact h1
      · exact nxF_mem h n hn
    · cases h
end Go.Proofs.Ythljdikcpdokdaa

/- Parts of a slice of bytes: what s[i:h], s[:h], s[i:] hand back. -/
namespace Go.Proofs.Ythljdikcpdokdaa
open Go.RowKit Go.Deep

theorem sizeU8 (u : World) : (sizeOf (Try.prog.elem 22)).run Try.prog u = .ok 1 u := by
  obtain ⟨i0, hi, hzz⟩ := Option.map_eq_some_iff.1 infoU8
  simp only [Prod.mk.injEq] at hzz
  have he : Try.prog.elem 22 = 5 := by kernel_rfl
  rw [he]
  simp [sizeOf, typeInfo, hi, hzz.2.1]
theorem undB : Try.prog.underlying 22 = some (.slice (Try.prog.elem 22)) := by kernel_rfl
theorem add_off (b off i : Nat) : (⟨b, off, none⟩ : Addr).add i = ⟨b, off + i, none⟩ := by unfold Addr.add; split <;> simp_all
/-- The address behind i elements: the old one where nothing is left of the capacity. -/
def cutA (A : Option Addr) (i c : Nat) : Option Addr := if c = i then A else A.map (·.add i)
theorem cutA_bs {w : World} {A : Option Addr} {l m : List Int} {i c : Nat} (hA : Bs w A l) (hm : i + m.length ≤ l.length) (hc : l.length ≤ c) (he : ∀ j, j < m.length → l.getD (i + j) 0 = m.getD j 0) : Bs w (cutA A i c) m := by
  rcases hA with h | ⟨b, off, rfl, h2, h3⟩
  · rw [h] at hm
    exact .inl (List.eq_nil_of_length_eq_zero (by rw [List.length_nil] at hm; omega))
  · unfold cutA
    split
    · exact .inl (List.eq_nil_of_length_eq_zero (by omega))
    · exact .inr ⟨b, off + i, by simp [add_off], h2, fun j hj => by rw [show off + i + j = off + (i + j) by omega, h3 (i + j) (by omega), he j hj]⟩
theorem cutA_drop {w : World} {A : Option Addr} {l : List Int} {i c : Nat} (hA : Bs w A l) (hi : i ≤ l.length) (hc : l.length ≤ c) : Bs w (cutA A i c) (l.drop i) :=
  cutA_bs hA (by rw [List.length_drop]; omega) hc (fun j _ => by simp [List.getD_eq_getElem?_getD])
theorem cutA_take {w : World} {A : Option Addr} {l : List Int} {n : Nat} (hA : Bs w A l) (hn : n ≤ l.length) : Bs w A (l.take n) := by
  rcases hA with h | ⟨b, off, rfl, h2, h3⟩
  · exact .inl (by rw [h]; simp)
  · exact .inr ⟨b, off, rfl, h2, fun j hj => by
      rw [List.length_take] at hj
      rw [h3 j (by omega)]
      simp [List.getD_eq_getElem?_getD, List.getElem?_take_of_lt (show j < n by omega)]⟩
theorem cut_lh (A : Option Addr) (z c i n : Nat) (H : Int) (hH : H = (i : Int) + (n : Int)) (hc : i + n ≤ c) (u : World) :
    (Instr.slice 22 (.slice A z c) (some (.int .i64 (i : Int))) (some (.int .i64 H)) none).run Try.prog u = .ok (.slice (cutA A i c) n (c - i)) u := by
  subst hH
  rw [run_slice_lh (w := u) 22 A z c undB .i64 .i64 (i : Int) ((i : Int) + (n : Int)) (by omega) (by omega) (by omega)]
  simp only [sizeU8, Result.andThen, sliced]
  rw [show ((i : Int) + (n : Int)).toNat - (i : Int).toNat = n by omega, Int.toNat_natCast, Nat.mul_one]
  rfl
theorem cut_h (A : Option Addr) (z c n : Nat) (H : Int) (hH : H = (n : Int)) (hc : n ≤ c) (u : World) :
    (Instr.slice 22 (.slice A z c) none (some (.int .i64 H)) none).run Try.prog u = .ok (.slice A n c) u := by
  subst hH
  rw [run_slice_h (w := u) 22 A z c undB .i64 (n : Int) (by omega) (by omega)]
  simp only [sizeU8, Result.andThen, sliced]
  rw [Int.toNat_natCast, Nat.sub_zero, Nat.sub_zero, Nat.zero_mul]
  split
  · rfl
  · rcases A with _ | ⟨b, off, sp⟩
    · rfl
    · simp [Addr.add]
theorem cut_l (A : Option Addr) (z c i : Nat) (H : Int) (hH : H = (i : Int)) (hz : i ≤ z) (u : World) :
    (Instr.slice 22 (.slice A z c) (some (.int .i64 H)) none none).run Try.prog u = .ok (.slice (cutA A i c) (z - i) (c - i)) u := by
  subst hH
  rw [run_slice_l (w := u) 22 A z c undB .i64 (i : Int) (by omega) (by omega)]
  simp only [sizeU8, Result.andThen, sliced]
  rw [Int.toNat_natCast, Nat.mul_one]
  rfl
end Go.Proofs.Ythljdikcpdokdaa

/- What a call leaves that answers a number; a bool. The tree of a BytesResult. -/
namespace Go.Proofs.Ythljdikcpdokdaa
open Go.RowKit Go.Deep

def IntR (n : Int) (w : World) (e : Ending) (w' : World) : Prop := e = .returned (.int .i64 n) ∧ Below w.heap.size w w'
def BolR (b : Bool) (w : World) (e : Ending) (w' : World) : Prop := e = .returned (.bool b) ∧ Below w.heap.size w w'
end Go.Proofs.Ythljdikcpdokdaa

/- Chapter 8: rows of pieces. -/
namespace Go.Proofs.Ythljdikcpdokdaa
open Go.RowKit Go.Deep

/-- A piece in a row. -/
def daE (x : DataM) (v : Value) (lo hi : Nat) : RowE := ⟨[.int x.Tsn, .int x.Stream, .int x.Seq, .bool x.First, .bool x.Last, .bool x.Unordered], v, x.Piece, lo, hi⟩
theorem daE_ok (x : DataM) (v : Value) (lo hi : Nat) : REok 7 (daE x v lo hi) := ⟨rfl, fun p hp => by simp [daE] at hp; rcases hp with rfl | rfl | rfl | rfl | rfl | rfl <;> trivial⟩
theorem daE_vs (x : DataM) (v : Value) (lo hi : Nat) : (daE x v lo hi).vs = x.vs := rfl
/-- The row q is the list r. -/
structure RowDa (q : List RowE) (r : List DataM) : Prop where
  len : q.length = r.length
  vs : q.flatMap RowE.vs = r.flatMap DataM.vs
  ok : ∀ x ∈ q, REok 7 x
theorem RowDa.nil : RowDa [] [] := ⟨rfl, rfl, fun x hx => by simp at hx⟩
theorem RowDa.snoc {q : List RowE} {r : List DataM} (h : RowDa q r) (x : DataM) (v : Value) (lo hi : Nat) : RowDa (q ++ [daE x v lo hi]) (r ++ [x]) :=
  ⟨by simp [h.len], by rw [List.flatMap_append, List.flatMap_append, h.vs]; rfl, fun y hy => by
    rcases List.mem_append.1 hy with hy | hy
    · exact h.ok y hy
    · simp at hy; subst hy; exact daE_ok _ _ _ _⟩
theorem RowDa.cons {q : List RowE} {r : List DataM} (h : RowDa q r) (x : DataM) (v : Value) (lo hi : Nat) : RowDa (daE x v lo hi :: q) (x :: r) :=
  ⟨by simp [h.len], by rw [List.flatMap_cons, List.flatMap_cons, h.vs]; rfl, fun y hy => by
    rcases List.mem_cons.1 hy with rfl | hy
    · exact daE_ok _ _ _ _
    · exact h.ok y hy⟩
theorem RowDa.take {q : List RowE} {r : List DataM} {j : Nat} (hj : j < r.length) (h : RowDa q (r.take j)) (v : Value) (lo hi : Nat) : RowDa (q ++ [daE r[j] v lo hi]) (r.take (j + 1)) := by
  rw [List.take_add_one, List.getElem?_eq_getElem hj]
  exact h.snoc _ _ _ _
theorem RowDa.own {w : World} {B0 B : Nat} {v : Value} {q : List RowE} {r : List DataM} (h : RowDa q r) (ho : w.ownsRow B 69 7 v r.length (flatR q)) (h00 : B0 ≤ B) (hq : RTs B0 w q) : OwV B0 w.heap.size w (st_Data r) v := by
  have := RTs.own ho h.len h.ok (by decide) h00 hq
  rw [h.vs] at this
  exact this
theorem infoDa : (Try.prog.info? 69).map (fun i => (i.zero, i.size, i.bytes)) = some (some (.agg #[.int .i64 0, .int .i64 0, .int .i64 0, .bool false, .bool false, .bool false, .slice none 0 0]), 7, 56) := by kernel_rfl
theorem wpList_append_Da {w : World} {ops : Array Oper} {rest : List Oper} {o : Oper} {a : Act} {Q : Exit → Act → World → Prop} (hgd : o.guard = none) (s x : Operand)
    (ho : o.op = .call { callee := .builtin .append, args := #[s, x], argTypes := #[25, 25] })
    (base : Nat) (v : Value) (n : Nat) (xs : List Value) (hs : a.eval s = v) (hown : w.ownsRow base 69 7 v n xs)
    (q t : Nat) (k f h2 : Int) (b0 b1 b2 : Bool) (A : Option Addr) (m c : Nat) (hx : a.eval x = .slice (some ⟨q, 0, none⟩) 1 1) (hq : Blk w q t #[.int .i64 k, .int .i64 f, .int .i64 h2, .bool b0, .bool b1, .bool b2, .slice A m c]) (hm : n ≤ 90000) (hbase : base ≤ w.heap.size)
    (h : ∀ v' w', w'.ownsRow base 69 7 v' (n + 1) (xs ++ [.int .i64 k, .int .i64 f, .int .i64 h2, .bool b0, .bool b1, .bool b2, .slice A m c]) → w.grownBy w' v.ownBlock → wpList Try.prog ops Q rest (a.put o.dst v') w') : wpList Try.prog ops Q (o :: rest) a w :=
  wpList_append_row hgd s x Try.underlying25 infoDa rfl (by decide) (by decide) ho base v n xs hs hown q 1 1 [.int .i64 k, .int .i64 f, .int .i64 h2, .bool b0, .bool b1, .bool b2, .slice A m c] hx rfl
    (fun j u hu => by rw [hq.cell, ← hu]; simp) (fun u hu => by simp only [List.mem_cons, List.not_mem_nil, or_false] at hu; rcases hu with rfl | rfl | rfl | rfl | rfl | rfl | rfl <;> rfl) (by omega) hbase (fun v' w' h1 h2 _ => h v' w' h1 h2)
end Go.Proofs.Ythljdikcpdokdaa

/- Chapter 10: rows of items. -/
namespace Go.Proofs.Ythljdikcpdokdaa
open Go.RowKit Go.Deep

/-- An item in a row. -/
def siE (x : SendItemM) (v : Value) (lo hi : Nat) : RowF := ⟨[.int x.Data_Tsn, .int x.Data_Stream, .int x.Data_Seq, .bool x.Data_First, .bool x.Data_Last, .bool x.Data_Unordered], v, x.Data_Piece, [.int x.Sent, .int x.Due], lo, hi⟩
theorem siE_ok (x : SendItemM) (v : Value) (lo hi : Nat) : RFok 9 (siE x v lo hi) :=
  ⟨rfl, fun p hp => by simp [siE] at hp; rcases hp with rfl | rfl | rfl | rfl | rfl | rfl <;> trivial, fun p hp => by simp [siE] at hp; rcases hp with rfl | rfl <;> trivial⟩
theorem siE_vs (x : SendItemM) (v : Value) (lo hi : Nat) : (siE x v lo hi).vs = x.vs := rfl
theorem siE_e (x : SendItemM) (v : Value) (lo hi : Nat) : (siE x v lo hi).e = daE x.d v lo hi := rfl
/-- The cells of an item. -/
def scs (x : SendItemM) (v : Value) : List Value := [.int .i64 x.Data_Tsn, .int .i64 x.Data_Stream, .int .i64 x.Data_Seq, .bool x.Data_First, .bool x.Data_Last, .bool x.Data_Unordered, v, .int .i64 x.Sent, .int .i64 x.Due]
theorem siE_cs (x : SendItemM) (v : Value) (lo hi : Nat) : (siE x v lo hi).cs = scs x v := rfl
/-- The row of the list r whose bytes lie as ks says. -/
def RowI (r : List SendItemM) (ks : List (Value × Nat × Nat)) : List RowF := List.zipWith (fun x k => siE x k.1 k.2.1 k.2.2) r ks
theorem RowI.len {r : List SendItemM} {ks : List (Value × Nat × Nat)} (h : ks.length = r.length) : (RowI r ks).length = r.length := by simp [RowI, h]
theorem RowI.snoc {r : List SendItemM} {ks : List (Value × Nat × Nat)} (h : ks.length = r.length) (x : SendItemM) (k : Value × Nat × Nat) : RowI (r ++ [x]) (ks ++ [k]) = RowI r ks ++ [siE x k.1 k.2.1 k.2.2] := by
  unfold RowI
  rw [List.zipWith_append h.symm]
  rfl
theorem RowI.ok : ∀ {r : List SendItemM} {ks : List (Value × Nat × Nat)}, ∀ x ∈ RowI r ks, RFok 9 x
  | [], _, x, h => by simp [RowI] at h
  | _ :: _, [], x, h => by simp [RowI] at h
  | y :: r, k :: ks, x, h => by
    simp only [RowI, List.zipWith_cons_cons, List.mem_cons] at h
    rcases h with rfl | h
    · exact siE_ok _ _ _ _
    · exact RowI.ok x h
theorem RowI.vs : ∀ {r : List SendItemM} {ks : List (Value × Nat × Nat)}, ks.length = r.length → (RowI r ks).flatMap RowF.vs = r.flatMap SendItemM.vs
  | [], [], _ => rfl
  | x :: r, k :: ks, h => by
    have ih := RowI.vs (r := r) (ks := ks) (by simpa using h)
    show (siE x k.1 k.2.1 k.2.2).vs ++ (RowI r ks).flatMap RowF.vs = x.vs ++ r.flatMap SendItemM.vs
    rw [ih, siE_vs]
  | [], _ :: _, h => by simp at h
  | _ :: _, [], h => by simp at h
theorem infoSi : (Try.prog.info? 121).map (fun i => (i.zero, i.size, i.bytes)) = some (some (.agg #[.int .i64 0, .int .i64 0, .int .i64 0, .bool false, .bool false, .bool false, .slice none 0 0, .int .i64 0, .int .i64 0]), 9, 72) := by kernel_rfl
/-- One item appended, out of a block that holds it. -/
theorem wpList_append_Si {w : World} {ops : Array Oper} {rest : List Oper} {o : Oper} {a : Act} {Q : Exit → Act → World → Prop} (hgd : o.guard = none) (s x : Operand) {T : TypeId} (hT : Try.prog.underlying T = some (.slice 121))
    (ho : o.op = .call { callee := .builtin .append, args := #[s, x], argTypes := #[T, T] })
    (base : Nat) (v : Value) (n : Nat) (xs : List Value) (hs : a.eval s = v) (hown : w.ownsRow base 121 9 v n xs)
    (q t : Nat) (y : SendItemM) (u : Value) (hu1 : u.oneCell' = true) (hx : a.eval x = .slice (some ⟨q, 0, none⟩) 1 1) (hq : Blk w q t (scs y u).toArray) (hm : n ≤ 90000) (hbase : base ≤ w.heap.size)
    (h : ∀ v' w', w'.ownsRow base 121 9 v' (n + 1) (xs ++ scs y u) → w.grownBy w' v.ownBlock → (v'.ownBlock = v.ownBlock ∨ v'.ownBlock = some w.heap.size) → wpList Try.prog ops Q rest (a.put o.dst v') w') : wpList Try.prog ops Q (o :: rest) a w :=
  wpList_append_row hgd s x hT infoSi rfl (by decide) (by decide) ho base v n xs hs hown q 1 1 (scs y u) hx rfl
    (fun j z hz => by rw [hq.cell, ← hz]; simp) (fun z hz => by simp only [scs, List.mem_cons, List.not_mem_nil, or_false] at hz; rcases hz with rfl | rfl | rfl | rfl | rfl | rfl | rfl | rfl | rfl <;> first | exact hu1 | rfl) (by omega) hbase h
/-- A list of items owned: the row behind block B, the bytes' windows behind block B0. -/
structure SZ (W : World) (B0 B : Nat) (v : Value) (r : List SendItemM) (ks : List (Value × Nat × Nat)) : Prop where
  row : W.ownsRow B 121 9 v r.length (flatF (RowI r ks))
  rts : RFs B0 W (RowI r ks)
  len : ks.length = r.length
theorem SZ.own {W : World} {B0 B : Nat} {v : Value} {r : List SendItemM} {ks : List (Value × Nat × Nat)} (h : SZ W B0 B v r ks) (hB : B0 ≤ B) : OwV B0 W.heap.size W (st_SendItem r) v := by
  have := RFs.own h.row (RowI.len h.len) RowI.ok (by decide) hB h.rts
  rw [RowI.vs h.len] at this
  exact this
theorem SZ.own1 {W : World} {B0 B : Nat} {v : Value} {r : List SendItemM} {ks : List (Value × Nat × Nat)} (h : SZ W B0 B v r ks) : Ow W (st_SendItem r) (FpF v (RowI r ks)) v := by
  have := RFs.own1 h.row (RowI.len h.len) RowI.ok (by decide) h.rts
  rw [RowI.vs h.len] at this
  exact this
theorem SZ.below {W W' : World} {B0 B : Nat} {v : Value} {r : List SendItemM} {ks : List (Value × Nat × Nat)} (h : SZ W B0 B v r ks) (hb : Below W.heap.size W W') : SZ W' B0 B v r ks := ⟨own_below0 h.row hb, h.rts.turn hb.size (B8.of_below hb), h.len⟩
theorem SZ.shape {W : World} {B0 B : Nat} {v : Value} {r : List SendItemM} {ks : List (Value × Nat × Nat)} (h : SZ W B0 B v r ks) : ∃ (A : Option Addr) (c : Nat), v = .slice A r.length c := own_lenT h.row
theorem SZ.nil (W : World) (B0 B : Nat) {v : Value} (h : W.ownsRow B 121 9 v 0 []) : SZ W B0 B v [] [] := ⟨h, RFs.nil _ _, rfl⟩
end Go.Proofs.Ythljdikcpdokdaa
