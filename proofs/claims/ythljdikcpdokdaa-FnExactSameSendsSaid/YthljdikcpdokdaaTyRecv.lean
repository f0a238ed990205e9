/- A receiver and its result (WRITTEN BY tools/kinds.py) -/
import Derived.Test.YthljdikcpdokdaaTyMsg
namespace Go.Proofs.Ythljdikcpdokdaa
open Go.RowKit Go.Deep Go.ChangeShapes Go.WideShapes Go.ChangeAt

structure RecvM where
  Cum : Int
  Beyond : List Int
  Pieces : List DataM
  Next : List Int
def RecvM.vs (x : RecvM) : List V := [.int x.Cum, .is x.Beyond, st_Data x.Pieces, .is x.Next]
theorem shape_Recv {w : World} {n0 : Int} {l1 : List Int} {r2 : List DataM} {l3 : List Int} {vs : List Value} (h : RdA w [.int n0, .is l1, st_Data r2, .is l3] vs) : ∃ (A1 : Option Addr) (c1 : Nat) (A2 : Option Addr) (c2 : Nat) (A3 : Option Addr) (c3 : Nat), vs = [.int .i64 n0, .slice A1 l1.length c1, .slice A2 r2.length c2, .slice A3 l3.length c3] := by
  obtain ⟨q0, e0, t0⟩ := h.int_out
  subst e0
  obtain ⟨v1, q1, e1, h1, t1⟩ := t0.any_out
  obtain ⟨A1, c1, a1⟩ := h1.is_sh
  subst e1 a1
  obtain ⟨v2, q2, e2, h2, t2⟩ := t1.any_out
  obtain ⟨A2, c2, a2⟩ := st_Data_sh h2
  subst e2 a2
  obtain ⟨v3, q3, e3, h3, t3⟩ := t2.any_out
  obtain ⟨A3, c3, a3⟩ := h3.is_sh
  subst e3 a3
  have z := t3.nil_out
  subst z
  exact ⟨A1, c1, A2, c2, A3, c3, rfl⟩
theorem cnt_Recv (y : RecvM) (h : tot.totL y.vs ≤ 1048576) : vcA y.vs ≤ 1000000000 := by
  have cData := ccS_Data
  simp only [RecvM.vs, vcA, vc, tot.totL, tot, cc, st_Data] at *
  have d2 := cData y.Pieces
  omega
theorem mem_Recv {w : World} {g o : Nat} {y : RecvM} (h : RdL w y.vs g o) : ∃ (A1 : Option Addr) (c1 : Nat) (A2 : Option Addr) (c2 : Nat) (A3 : Option Addr) (c3 : Nat), w.cell? ⟨g, o, none⟩ = some (.int .i64 y.Cum) ∧ w.cell? ⟨g, o + 1, none⟩ = some (.slice A1 y.Beyond.length c1) ∧ w.cell? ⟨g, o + 2, none⟩ = some (.slice A2 y.Pieces.length c2) ∧ w.cell? ⟨g, o + 3, none⟩ = some (.slice A3 y.Next.length c3) ∧ Rd w (.is y.Beyond) (.slice A1 y.Beyond.length c1) ∧ Rd w (st_Data y.Pieces) (.slice A2 y.Pieces.length c2) ∧ Rd w (.is y.Next) (.slice A3 y.Next.length c3) := by
  obtain ⟨u0, p0, t0⟩ := h.get? 0 (.int y.Cum) rfl
  have e0 := t0.int_out
  subst e0
  obtain ⟨u1, p1, t1⟩ := h.get? 1 (.is y.Beyond) rfl
  obtain ⟨A1, c1, e1⟩ := t1.is_sh
  subst e1
  obtain ⟨u2, p2, t2⟩ := h.get? 2 (st_Data y.Pieces) rfl
  obtain ⟨A2, c2, e2⟩ := st_Data_sh t2
  subst e2
  obtain ⟨u3, p3, t3⟩ := h.get? 3 (.is y.Next) rfl
  obtain ⟨A3, c3, e3⟩ := t3.is_sh
  subst e3
  rw [Nat.add_zero] at p0
  exact ⟨A1, c1, A2, c2, A3, c3, p0, p1, p2, p3, t1, t2, t3⟩
structure RecvResultM where
  Code : Int
  Recv_Cum : Int
  Recv_Beyond : List Int
  Recv_Pieces : List DataM
  Recv_Next : List Int
  Twice : Bool
  Messages : List MessageM
def RecvResultM.vs (x : RecvResultM) : List V := [.int x.Code, .int x.Recv_Cum, .is x.Recv_Beyond, st_Data x.Recv_Pieces, .is x.Recv_Next, .bool x.Twice, st_Message x.Messages]
theorem shape_RecvResult {w : World} {n0 : Int} {n1 : Int} {l2 : List Int} {r3 : List DataM} {l4 : List Int} {b5 : Bool} {r6 : List MessageM} {vs : List Value} (h : RdA w [.int n0, .int n1, .is l2, st_Data r3, .is l4, .bool b5, st_Message r6] vs) : ∃ (A2 : Option Addr) (c2 : Nat) (A3 : Option Addr) (c3 : Nat) (A4 : Option Addr) (c4 : Nat) (A6 : Option Addr) (c6 : Nat), vs = [.int .i64 n0, .int .i64 n1, .slice A2 l2.length c2, .slice A3 r3.length c3, .slice A4 l4.length c4, .bool b5, .slice A6 r6.length c6] := by
  obtain ⟨q0, e0, t0⟩ := h.int_out
  subst e0
  obtain ⟨q1, e1, t1⟩ := t0.int_out
  subst e1
  obtain ⟨v2, q2, e2, h2, t2⟩ := t1.any_out
  obtain ⟨A2, c2, a2⟩ := h2.is_sh
  subst e2 a2
  obtain ⟨v3, q3, e3, h3, t3⟩ := t2.any_out
  obtain ⟨A3, c3, a3⟩ := st_Data_sh h3
  subst e3 a3
  obtain ⟨v4, q4, e4, h4, t4⟩ := t3.any_out
  obtain ⟨A4, c4, a4⟩ := h4.is_sh
  subst e4 a4
  obtain ⟨q5, e5, t5⟩ := t4.bool_out
  subst e5
  obtain ⟨v6, q6, e6, h6, t6⟩ := t5.any_out
  obtain ⟨A6, c6, a6⟩ := st_Message_sh h6
  subst e6 a6
  have z := t6.nil_out
  subst z
  exact ⟨A2, c2, A3, c3, A4, c4, A6, c6, rfl⟩
theorem cnt_RecvResult (y : RecvResultM) (h : tot.totL y.vs ≤ 1048576) : vcA y.vs ≤ 1000000000 := by
  have cData := ccS_Data
  have cMessage := ccS_Message
  simp only [RecvResultM.vs, vcA, vc, tot.totL, tot, cc, st_Data, st_Message] at *
  have d3 := cData y.Recv_Pieces
  have d6 := cMessage y.Messages
  omega
theorem mem_RecvResult {w : World} {g o : Nat} {y : RecvResultM} (h : RdL w y.vs g o) : ∃ (A2 : Option Addr) (c2 : Nat) (A3 : Option Addr) (c3 : Nat) (A4 : Option Addr) (c4 : Nat) (A6 : Option Addr) (c6 : Nat), w.cell? ⟨g, o, none⟩ = some (.int .i64 y.Code) ∧ w.cell? ⟨g, o + 1, none⟩ = some (.int .i64 y.Recv_Cum) ∧ w.cell? ⟨g, o + 2, none⟩ = some (.slice A2 y.Recv_Beyond.length c2) ∧ w.cell? ⟨g, o + 3, none⟩ = some (.slice A3 y.Recv_Pieces.length c3) ∧ w.cell? ⟨g, o + 4, none⟩ = some (.slice A4 y.Recv_Next.length c4) ∧ w.cell? ⟨g, o + 5, none⟩ = some (.bool y.Twice) ∧ w.cell? ⟨g, o + 6, none⟩ = some (.slice A6 y.Messages.length c6) ∧ Rd w (.is y.Recv_Beyond) (.slice A2 y.Recv_Beyond.length c2) ∧ Rd w (st_Data y.Recv_Pieces) (.slice A3 y.Recv_Pieces.length c3) ∧ Rd w (.is y.Recv_Next) (.slice A4 y.Recv_Next.length c4) ∧ Rd w (st_Message y.Messages) (.slice A6 y.Messages.length c6) := by
  obtain ⟨u0, p0, t0⟩ := h.get? 0 (.int y.Code) rfl
  have e0 := t0.int_out
  subst e0
  obtain ⟨u1, p1, t1⟩ := h.get? 1 (.int y.Recv_Cum) rfl
  have e1 := t1.int_out
  subst e1
  obtain ⟨u2, p2, t2⟩ := h.get? 2 (.is y.Recv_Beyond) rfl
  obtain ⟨A2, c2, e2⟩ := t2.is_sh
  subst e2
  obtain ⟨u3, p3, t3⟩ := h.get? 3 (st_Data y.Recv_Pieces) rfl
  obtain ⟨A3, c3, e3⟩ := st_Data_sh t3
  subst e3
  obtain ⟨u4, p4, t4⟩ := h.get? 4 (.is y.Recv_Next) rfl
  obtain ⟨A4, c4, e4⟩ := t4.is_sh
  subst e4
  obtain ⟨u5, p5, t5⟩ := h.get? 5 (.bool y.Twice) rfl
  have e5 := t5.bool_out
  subst e5
  obtain ⟨u6, p6, t6⟩ := h.get? 6 (st_Message y.Messages) rfl
  obtain ⟨A6, c6, e6⟩ := st_Message_sh t6
  subst e6
  rw [Nat.add_zero] at p0
  exact ⟨A2, c2, A3, c3, A4, c4, A6, c6, p0, p1, p2, p3, p4, p5, p6, t2, t3, t4, t6⟩
end Go.Proofs.Ythljdikcpdokdaa
