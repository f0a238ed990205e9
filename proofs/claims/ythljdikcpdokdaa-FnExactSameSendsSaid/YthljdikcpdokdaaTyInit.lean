/- Init, Answer and their results (WRITTEN BY tools/kinds.py) -/
import Derived.Test.YthljdikcpdokdaaUniO
namespace Go.Proofs.Ythljdikcpdokdaa
open Go.RowKit Go.Deep Go.ChangeShapes Go.WideShapes Go.ChangeAt

structure InitM where
  Tag : Int
  Tsn : Int
  Random : List Int
  Addrs : List Int
  Cookie : List Int
def InitM.vs (x : InitM) : List V := [.int x.Tag, .int x.Tsn, .bs x.Random, .is x.Addrs, .bs x.Cookie]
theorem shape_Init {w : World} {n0 : Int} {n1 : Int} {l2 : List Int} {l3 : List Int} {l4 : List Int} {vs : List Value} (h : RdA w [.int n0, .int n1, .bs l2, .is l3, .bs l4] vs) : ∃ (A2 : Option Addr) (c2 : Nat) (A3 : Option Addr) (c3 : Nat) (A4 : Option Addr) (c4 : Nat), vs = [.int .i64 n0, .int .i64 n1, .slice A2 l2.length c2, .slice A3 l3.length c3, .slice A4 l4.length c4] := by
  obtain ⟨q0, e0, t0⟩ := h.int_out
  subst e0
  obtain ⟨q1, e1, t1⟩ := t0.int_out
  subst e1
  obtain ⟨v2, q2, e2, h2, t2⟩ := t1.any_out
  obtain ⟨A2, c2, a2⟩ := h2.bs_sh
  subst e2 a2
  obtain ⟨v3, q3, e3, h3, t3⟩ := t2.any_out
  obtain ⟨A3, c3, a3⟩ := h3.is_sh
  subst e3 a3
  obtain ⟨v4, q4, e4, h4, t4⟩ := t3.any_out
  obtain ⟨A4, c4, a4⟩ := h4.bs_sh
  subst e4 a4
  have z := t4.nil_out
  subst z
  exact ⟨A2, c2, A3, c3, A4, c4, rfl⟩
theorem cnt_Init (y : InitM) (h : tot.totL y.vs ≤ 1048576) : vcA y.vs ≤ 1000000000 := by
  simp only [InitM.vs, vcA, vc, tot.totL, tot, cc] at *
  omega
theorem mem_Init {w : World} {g o : Nat} {y : InitM} (h : RdL w y.vs g o) : ∃ (A2 : Option Addr) (c2 : Nat) (A3 : Option Addr) (c3 : Nat) (A4 : Option Addr) (c4 : Nat), w.cell? ⟨g, o, none⟩ = some (.int .i64 y.Tag) ∧ w.cell? ⟨g, o + 1, none⟩ = some (.int .i64 y.Tsn) ∧ w.cell? ⟨g, o + 2, none⟩ = some (.slice A2 y.Random.length c2) ∧ w.cell? ⟨g, o + 3, none⟩ = some (.slice A3 y.Addrs.length c3) ∧ w.cell? ⟨g, o + 4, none⟩ = some (.slice A4 y.Cookie.length c4) ∧ Rd w (.bs y.Random) (.slice A2 y.Random.length c2) ∧ Rd w (.is y.Addrs) (.slice A3 y.Addrs.length c3) ∧ Rd w (.bs y.Cookie) (.slice A4 y.Cookie.length c4) := by
  obtain ⟨u0, p0, t0⟩ := h.get? 0 (.int y.Tag) rfl
  have e0 := t0.int_out
  subst e0
  obtain ⟨u1, p1, t1⟩ := h.get? 1 (.int y.Tsn) rfl
  have e1 := t1.int_out
  subst e1
  obtain ⟨u2, p2, t2⟩ := h.get? 2 (.bs y.Random) rfl
  obtain ⟨A2, c2, e2⟩ := t2.bs_sh
  subst e2
  obtain ⟨u3, p3, t3⟩ := h.get? 3 (.is y.Addrs) rfl
  obtain ⟨A3, c3, e3⟩ := t3.is_sh
  subst e3
  obtain ⟨u4, p4, t4⟩ := h.get? 4 (.bs y.Cookie) rfl
  obtain ⟨A4, c4, e4⟩ := t4.bs_sh
  subst e4
  rw [Nat.add_zero] at p0
  exact ⟨A2, c2, A3, c3, A4, c4, p0, p1, p2, p3, p4, t2, t3, t4⟩
structure InitResultM where
  Code : Int
  Init_Tag : Int
  Init_Tsn : Int
  Init_Random : List Int
  Init_Addrs : List Int
  Init_Cookie : List Int
def InitResultM.vs (x : InitResultM) : List V := [.int x.Code, .int x.Init_Tag, .int x.Init_Tsn, .bs x.Init_Random, .is x.Init_Addrs, .bs x.Init_Cookie]
theorem shape_InitResult {w : World} {n0 : Int} {n1 : Int} {n2 : Int} {l3 : List Int} {l4 : List Int} {l5 : List Int} {vs : List Value} (h : RdA w [.int n0, .int n1, .int n2, .bs l3, .is l4, .bs l5] vs) : ∃ (A3 : Option Addr) (c3 : Nat) (A4 : Option Addr) (c4 : Nat) (A5 : Option Addr) (c5 : Nat), vs = [.int .i64 n0, .int .i64 n1, .int .i64 n2, .slice A3 l3.length c3, .slice A4 l4.length c4, .slice A5 l5.length c5] := by
  obtain ⟨q0, e0, t0⟩ := h.int_out
  subst e0
  obtain ⟨q1, e1, t1⟩ := t0.int_out
  subst e1
  obtain ⟨q2, e2, t2⟩ := t1.int_out
  subst e2
  obtain ⟨v3, q3, e3, h3, t3⟩ := t2.any_out
  obtain ⟨A3, c3, a3⟩ := h3.bs_sh
  subst e3 a3
  obtain ⟨v4, q4, e4, h4, t4⟩ := t3.any_out
  obtain ⟨A4, c4, a4⟩ := h4.is_sh
  subst e4 a4
  obtain ⟨v5, q5, e5, h5, t5⟩ := t4.any_out
  obtain ⟨A5, c5, a5⟩ := h5.bs_sh
  subst e5 a5
  have z := t5.nil_out
  subst z
  exact ⟨A3, c3, A4, c4, A5, c5, rfl⟩
theorem cnt_InitResult (y : InitResultM) (h : tot.totL y.vs ≤ 1048576) : vcA y.vs ≤ 1000000000 := by
  simp only [InitResultM.vs, vcA, vc, tot.totL, tot, cc] at *
  omega
theorem mem_InitResult {w : World} {g o : Nat} {y : InitResultM} (h : RdL w y.vs g o) : ∃ (A3 : Option Addr) (c3 : Nat) (A4 : Option Addr) (c4 : Nat) (A5 : Option Addr) (c5 : Nat), w.cell? ⟨g, o, none⟩ = some (.int .i64 y.Code) ∧ w.cell? ⟨g, o + 1, none⟩ = some (.int .i64 y.Init_Tag) ∧ w.cell? ⟨g, o + 2, none⟩ = some (.int .i64 y.Init_Tsn) ∧ w.cell? ⟨g, o + 3, none⟩ = some (.slice A3 y.Init_Random.length c3) ∧ w.cell? ⟨g, o + 4, none⟩ = some (.slice A4 y.Init_Addrs.length c4) ∧ w.cell? ⟨g, o + 5, none⟩ = some (.slice A5 y.Init_Cookie.length c5) ∧ Rd w (.bs y.Init_Random) (.slice A3 y.Init_Random.length c3) ∧ Rd w (.is y.Init_Addrs) (.slice A4 y.Init_Addrs.length c4) ∧ Rd w (.bs y.Init_Cookie) (.slice A5 y.Init_Cookie.length c5) := by
  obtain ⟨u0, p0, t0⟩ := h.get? 0 (.int y.Code) rfl
  have e0 := t0.int_out
  subst e0
  obtain ⟨u1, p1, t1⟩ := h.get? 1 (.int y.Init_Tag) rfl
  have e1 := t1.int_out
  subst e1
  obtain ⟨u2, p2, t2⟩ := h.get? 2 (.int y.Init_Tsn) rfl
  have e2 := t2.int_out
  subst e2
  obtain ⟨u3, p3, t3⟩ := h.get? 3 (.bs y.Init_Random) rfl
  obtain ⟨A3, c3, e3⟩ := t3.bs_sh
  subst e3
  obtain ⟨u4, p4, t4⟩ := h.get? 4 (.is y.Init_Addrs) rfl
  obtain ⟨A4, c4, e4⟩ := t4.is_sh
  subst e4
  obtain ⟨u5, p5, t5⟩ := h.get? 5 (.bs y.Init_Cookie) rfl
  obtain ⟨A5, c5, e5⟩ := t5.bs_sh
  subst e5
  rw [Nat.add_zero] at p0
  exact ⟨A3, c3, A4, c4, A5, c5, p0, p1, p2, p3, p4, p5, t3, t4, t5⟩
structure AnswerM where
  Serial : Int
  Codes : List Int
def AnswerM.vs (x : AnswerM) : List V := [.int x.Serial, .is x.Codes]
theorem shape_Answer {w : World} {n0 : Int} {l1 : List Int} {vs : List Value} (h : RdA w [.int n0, .is l1] vs) : ∃ (A1 : Option Addr) (c1 : Nat), vs = [.int .i64 n0, .slice A1 l1.length c1] := by
  obtain ⟨q0, e0, t0⟩ := h.int_out
  subst e0
  obtain ⟨v1, q1, e1, h1, t1⟩ := t0.any_out
  obtain ⟨A1, c1, a1⟩ := h1.is_sh
  subst e1 a1
  have z := t1.nil_out
  subst z
  exact ⟨A1, c1, rfl⟩
theorem cnt_Answer (y : AnswerM) (h : tot.totL y.vs ≤ 1048576) : vcA y.vs ≤ 1000000000 := by
  simp only [AnswerM.vs, vcA, vc, tot.totL, tot, cc] at *
  omega
theorem mem_Answer {w : World} {g o : Nat} {y : AnswerM} (h : RdL w y.vs g o) : ∃ (A1 : Option Addr) (c1 : Nat), w.cell? ⟨g, o, none⟩ = some (.int .i64 y.Serial) ∧ w.cell? ⟨g, o + 1, none⟩ = some (.slice A1 y.Codes.length c1) ∧ Rd w (.is y.Codes) (.slice A1 y.Codes.length c1) := by
  obtain ⟨u0, p0, t0⟩ := h.get? 0 (.int y.Serial) rfl
  have e0 := t0.int_out
  subst e0
  obtain ⟨u1, p1, t1⟩ := h.get? 1 (.is y.Codes) rfl
  obtain ⟨A1, c1, e1⟩ := t1.is_sh
  subst e1
  rw [Nat.add_zero] at p0
  exact ⟨A1, c1, p0, p1, t1⟩
structure AnswerResultM where
  Code : Int
  Answer_Serial : Int
  Answer_Codes : List Int
def AnswerResultM.vs (x : AnswerResultM) : List V := [.int x.Code, .int x.Answer_Serial, .is x.Answer_Codes]
theorem shape_AnswerResult {w : World} {n0 : Int} {n1 : Int} {l2 : List Int} {vs : List Value} (h : RdA w [.int n0, .int n1, .is l2] vs) : ∃ (A2 : Option Addr) (c2 : Nat), vs = [.int .i64 n0, .int .i64 n1, .slice A2 l2.length c2] := by
  obtain ⟨q0, e0, t0⟩ := h.int_out
  subst e0
  obtain ⟨q1, e1, t1⟩ := t0.int_out
  subst e1
  obtain ⟨v2, q2, e2, h2, t2⟩ := t1.any_out
  obtain ⟨A2, c2, a2⟩ := h2.is_sh
  subst e2 a2
  have z := t2.nil_out
  subst z
  exact ⟨A2, c2, rfl⟩
theorem cnt_AnswerResult (y : AnswerResultM) (h : tot.totL y.vs ≤ 1048576) : vcA y.vs ≤ 1000000000 := by
  simp only [AnswerResultM.vs, vcA, vc, tot.totL, tot, cc] at *
  omega
theorem mem_AnswerResult {w : World} {g o : Nat} {y : AnswerResultM} (h : RdL w y.vs g o) : ∃ (A2 : Option Addr) (c2 : Nat), w.cell? ⟨g, o, none⟩ = some (.int .i64 y.Code) ∧ w.cell? ⟨g, o + 1, none⟩ = some (.int .i64 y.Answer_Serial) ∧ w.cell? ⟨g, o + 2, none⟩ = some (.slice A2 y.Answer_Codes.length c2) ∧ Rd w (.is y.Answer_Codes) (.slice A2 y.Answer_Codes.length c2) := by
  obtain ⟨u0, p0, t0⟩ := h.get? 0 (.int y.Code) rfl
  have e0 := t0.int_out
  subst e0
  obtain ⟨u1, p1, t1⟩ := h.get? 1 (.int y.Answer_Serial) rfl
  have e1 := t1.int_out
  subst e1
  obtain ⟨u2, p2, t2⟩ := h.get? 2 (.is y.Answer_Codes) rfl
  obtain ⟨A2, c2, e2⟩ := t2.is_sh
  subst e2
  rw [Nat.add_zero] at p0
  exact ⟨A2, c2, p0, p1, p2, t2⟩
end Go.Proofs.Ythljdikcpdokdaa
