/- Sack, Asconf and their results (WRITTEN BY tools/kinds.py) -/
import Derived.Test.YtbfbfimmhpijfaaUniO
namespace Go.Proofs.Ytbfbfimmhpijfaa
open Go.RowKit Go.Deep Go.ChangeShapes Go.WideShapes Go.ChangeAt

structure GapM where
  From : Int
  To : Int
def GapM.vs (x : GapM) : List V := [.int x.From, .int x.To]
theorem shape_Gap {w : World} {n0 : Int} {n1 : Int} {vs : List Value} (h : RdA w [.int n0, .int n1] vs) : vs = [.int .i64 n0, .int .i64 n1] := by
  obtain ⟨q0, e0, t0⟩ := h.int_out
  subst e0
  obtain ⟨q1, e1, t1⟩ := t0.int_out
  subst e1
  have z := t1.nil_out
  subst z
  exact rfl
theorem mem_Gap {w : World} {g o : Nat} {y : GapM} (h : RdL w y.vs g o) : w.cell? ⟨g, o, none⟩ = some (.int .i64 y.From) ∧ w.cell? ⟨g, o + 1, none⟩ = some (.int .i64 y.To) := by
  obtain ⟨u0, p0, t0⟩ := h.get? 0 (.int y.From) rfl
  have e0 := t0.int_out
  subst e0
  obtain ⟨u1, p1, t1⟩ := h.get? 1 (.int y.To) rfl
  have e1 := t1.int_out
  subst e1
  rw [Nat.add_zero] at p0
  exact ⟨p0, p1⟩
def st_Gap (r : List GapM) : V := .st r.length (r.flatMap GapM.vs)
theorem st_Gap_sh {w : World} {r : List GapM} {v : Value} (h : Rd w (st_Gap r) v) : ∃ A c, v = .slice A r.length c := Rd.st_sh h
theorem ccS_Gap (r : List GapM) : cc.ccL (r.flatMap GapM.vs) ≤ 3 * (r.length + tot.totL (r.flatMap GapM.vs)) := by
  induction r with
  | nil => simp [cc.ccL]
  | cons x xs ih =>
    rw [List.flatMap_cons, ccL_append, totL_append, List.length_cons]
    have : cc.ccL (GapM.vs x) ≤ 3 * (1 + tot.totL (GapM.vs x)) := by
      simp only [GapM.vs, cc.ccL, cc, tot.totL, tot]
      omega
    omega
structure SackM where
  Cum : Int
  Gaps : List GapM
def SackM.vs (x : SackM) : List V := [.int x.Cum, st_Gap x.Gaps]
theorem shape_Sack {w : World} {n0 : Int} {r1 : List GapM} {vs : List Value} (h : RdA w [.int n0, st_Gap r1] vs) : ∃ (A1 : Option Addr) (c1 : Nat), vs = [.int .i64 n0, .slice A1 r1.length c1] := by
  obtain ⟨q0, e0, t0⟩ := h.int_out
  subst e0
  obtain ⟨v1, q1, e1, h1, t1⟩ := t0.any_out
  obtain ⟨A1, c1, a1⟩ := st_Gap_sh h1
  subst e1 a1
  have z := t1.nil_out
  subst z
  exact ⟨A1, c1, rfl⟩
theorem cnt_Sack (y : SackM) (h : tot.totL y.vs ≤ 1048576) : vcA y.vs ≤ 1000000000 := by
  have cGap := ccS_Gap
  simp only [SackM.vs, vcA, vc, tot.totL, tot, cc, st_Gap] at *
  have d1 := cGap y.Gaps
  omega
theorem mem_Sack {w : World} {g o : Nat} {y : SackM} (h : RdL w y.vs g o) : ∃ (A1 : Option Addr) (c1 : Nat), w.cell? ⟨g, o, none⟩ = some (.int .i64 y.Cum) ∧ w.cell? ⟨g, o + 1, none⟩ = some (.slice A1 y.Gaps.length c1) ∧ Rd w (st_Gap y.Gaps) (.slice A1 y.Gaps.length c1) := by
  obtain ⟨u0, p0, t0⟩ := h.get? 0 (.int y.Cum) rfl
  have e0 := t0.int_out
  subst e0
  obtain ⟨u1, p1, t1⟩ := h.get? 1 (st_Gap y.Gaps) rfl
  obtain ⟨A1, c1, e1⟩ := st_Gap_sh t1
  subst e1
  rw [Nat.add_zero] at p0
  exact ⟨A1, c1, p0, p1, t1⟩
structure SackResultM where
  Code : Int
  Sack_Cum : Int
  Sack_Gaps : List GapM
def SackResultM.vs (x : SackResultM) : List V := [.int x.Code, .int x.Sack_Cum, st_Gap x.Sack_Gaps]
theorem shape_SackResult {w : World} {n0 : Int} {n1 : Int} {r2 : List GapM} {vs : List Value} (h : RdA w [.int n0, .int n1, st_Gap r2] vs) : ∃ (A2 : Option Addr) (c2 : Nat), vs = [.int .i64 n0, .int .i64 n1, .slice A2 r2.length c2] := by
  obtain ⟨q0, e0, t0⟩ := h.int_out
  subst e0
  obtain ⟨q1, e1, t1⟩ := t0.int_out
  subst e1
  obtain ⟨v2, q2, e2, h2, t2⟩ := t1.any_out
  obtain ⟨A2, c2, a2⟩ := st_Gap_sh h2
  subst e2 a2
  have z := t2.nil_out
  subst z
  exact ⟨A2, c2, rfl⟩
theorem cnt_SackResult (y : SackResultM) (h : tot.totL y.vs ≤ 1048576) : vcA y.vs ≤ 1000000000 := by
  have cGap := ccS_Gap
  simp only [SackResultM.vs, vcA, vc, tot.totL, tot, cc, st_Gap] at *
  have d2 := cGap y.Sack_Gaps
  omega
theorem mem_SackResult {w : World} {g o : Nat} {y : SackResultM} (h : RdL w y.vs g o) : ∃ (A2 : Option Addr) (c2 : Nat), w.cell? ⟨g, o, none⟩ = some (.int .i64 y.Code) ∧ w.cell? ⟨g, o + 1, none⟩ = some (.int .i64 y.Sack_Cum) ∧ w.cell? ⟨g, o + 2, none⟩ = some (.slice A2 y.Sack_Gaps.length c2) ∧ Rd w (st_Gap y.Sack_Gaps) (.slice A2 y.Sack_Gaps.length c2) := by
  obtain ⟨u0, p0, t0⟩ := h.get? 0 (.int y.Code) rfl
  have e0 := t0.int_out
  subst e0
  obtain ⟨u1, p1, t1⟩ := h.get? 1 (.int y.Sack_Cum) rfl
  have e1 := t1.int_out
  subst e1
  obtain ⟨u2, p2, t2⟩ := h.get? 2 (st_Gap y.Sack_Gaps) rfl
  obtain ⟨A2, c2, e2⟩ := st_Gap_sh t2
  subst e2
  rw [Nat.add_zero] at p0
  exact ⟨A2, c2, p0, p1, p2, t2⟩
structure AddrOpM where
  Kind : Int
  Addr : Int
def AddrOpM.vs (x : AddrOpM) : List V := [.int x.Kind, .int x.Addr]
theorem shape_AddrOp {w : World} {n0 : Int} {n1 : Int} {vs : List Value} (h : RdA w [.int n0, .int n1] vs) : vs = [.int .i64 n0, .int .i64 n1] := by
  obtain ⟨q0, e0, t0⟩ := h.int_out
  subst e0
  obtain ⟨q1, e1, t1⟩ := t0.int_out
  subst e1
  have z := t1.nil_out
  subst z
  exact rfl
theorem mem_AddrOp {w : World} {g o : Nat} {y : AddrOpM} (h : RdL w y.vs g o) : w.cell? ⟨g, o, none⟩ = some (.int .i64 y.Kind) ∧ w.cell? ⟨g, o + 1, none⟩ = some (.int .i64 y.Addr) := by
  obtain ⟨u0, p0, t0⟩ := h.get? 0 (.int y.Kind) rfl
  have e0 := t0.int_out
  subst e0
  obtain ⟨u1, p1, t1⟩ := h.get? 1 (.int y.Addr) rfl
  have e1 := t1.int_out
  subst e1
  rw [Nat.add_zero] at p0
  exact ⟨p0, p1⟩
def st_AddrOp (r : List AddrOpM) : V := .st r.length (r.flatMap AddrOpM.vs)
theorem st_AddrOp_sh {w : World} {r : List AddrOpM} {v : Value} (h : Rd w (st_AddrOp r) v) : ∃ A c, v = .slice A r.length c := Rd.st_sh h
theorem ccS_AddrOp (r : List AddrOpM) : cc.ccL (r.flatMap AddrOpM.vs) ≤ 3 * (r.length + tot.totL (r.flatMap AddrOpM.vs)) := by
  induction r with
  | nil => simp [cc.ccL]
  | cons x xs ih =>
    rw [List.flatMap_cons, ccL_append, totL_append, List.length_cons]
    have : cc.ccL (AddrOpM.vs x) ≤ 3 * (1 + tot.totL (AddrOpM.vs x)) := by
      simp only [AddrOpM.vs, cc.ccL, cc, tot.totL, tot]
      omega
    omega
structure AsconfM where
  Serial : Int
  Ops : List AddrOpM
def AsconfM.vs (x : AsconfM) : List V := [.int x.Serial, st_AddrOp x.Ops]
theorem shape_Asconf {w : World} {n0 : Int} {r1 : List AddrOpM} {vs : List Value} (h : RdA w [.int n0, st_AddrOp r1] vs) : ∃ (A1 : Option Addr) (c1 : Nat), vs = [.int .i64 n0, .slice A1 r1.length c1] := by
  obtain ⟨q0, e0, t0⟩ := h.int_out
  subst e0
  obtain ⟨v1, q1, e1, h1, t1⟩ := t0.any_out
  obtain ⟨A1, c1, a1⟩ := st_AddrOp_sh h1
  subst e1 a1
  have z := t1.nil_out
  subst z
  exact ⟨A1, c1, rfl⟩
theorem cnt_Asconf (y : AsconfM) (h : tot.totL y.vs ≤ 1048576) : vcA y.vs ≤ 1000000000 := by
  have cAddrOp := ccS_AddrOp
  simp only [AsconfM.vs, vcA, vc, tot.totL, tot, cc, st_AddrOp] at *
  have d1 := cAddrOp y.Ops
  omega
theorem mem_Asconf {w : World} {g o : Nat} {y : AsconfM} (h : RdL w y.vs g o) : ∃ (A1 : Option Addr) (c1 : Nat), w.cell? ⟨g, o, none⟩ = some (.int .i64 y.Serial) ∧ w.cell? ⟨g, o + 1, none⟩ = some (.slice A1 y.Ops.length c1) ∧ Rd w (st_AddrOp y.Ops) (.slice A1 y.Ops.length c1) := by
  obtain ⟨u0, p0, t0⟩ := h.get? 0 (.int y.Serial) rfl
  have e0 := t0.int_out
  subst e0
  obtain ⟨u1, p1, t1⟩ := h.get? 1 (st_AddrOp y.Ops) rfl
  obtain ⟨A1, c1, e1⟩ := st_AddrOp_sh t1
  subst e1
  rw [Nat.add_zero] at p0
  exact ⟨A1, c1, p0, p1, t1⟩
structure AsconfResultM where
  Code : Int
  Asconf_Serial : Int
  Asconf_Ops : List AddrOpM
def AsconfResultM.vs (x : AsconfResultM) : List V := [.int x.Code, .int x.Asconf_Serial, st_AddrOp x.Asconf_Ops]
theorem shape_AsconfResult {w : World} {n0 : Int} {n1 : Int} {r2 : List AddrOpM} {vs : List Value} (h : RdA w [.int n0, .int n1, st_AddrOp r2] vs) : ∃ (A2 : Option Addr) (c2 : Nat), vs = [.int .i64 n0, .int .i64 n1, .slice A2 r2.length c2] := by
  obtain ⟨q0, e0, t0⟩ := h.int_out
  subst e0
  obtain ⟨q1, e1, t1⟩ := t0.int_out
  subst e1
  obtain ⟨v2, q2, e2, h2, t2⟩ := t1.any_out
  obtain ⟨A2, c2, a2⟩ := st_AddrOp_sh h2
  subst e2 a2
  have z := t2.nil_out
  subst z
  exact ⟨A2, c2, rfl⟩
theorem cnt_AsconfResult (y : AsconfResultM) (h : tot.totL y.vs ≤ 1048576) : vcA y.vs ≤ 1000000000 := by
  have cAddrOp := ccS_AddrOp
  simp only [AsconfResultM.vs, vcA, vc, tot.totL, tot, cc, st_AddrOp] at *
  have d2 := cAddrOp y.Asconf_Ops
  omega
theorem mem_AsconfResult {w : World} {g o : Nat} {y : AsconfResultM} (h : RdL w y.vs g o) : ∃ (A2 : Option Addr) (c2 : Nat), w.cell? ⟨g, o, none⟩ = some (.int .i64 y.Code) ∧ w.cell? ⟨g, o + 1, none⟩ = some (.int .i64 y.Asconf_Serial) ∧ w.cell? ⟨g, o + 2, none⟩ = some (.slice A2 y.Asconf_Ops.length c2) ∧ Rd w (st_AddrOp y.Asconf_Ops) (.slice A2 y.Asconf_Ops.length c2) := by
  obtain ⟨u0, p0, t0⟩ := h.get? 0 (.int y.Code) rfl
  have e0 := t0.int_out
  subst e0
  obtain ⟨u1, p1, t1⟩ := h.get? 1 (.int y.Asconf_Serial) rfl
  have e1 := t1.int_out
  subst e1
  obtain ⟨u2, p2, t2⟩ := h.get? 2 (st_AddrOp y.Asconf_Ops) rfl
  obtain ⟨A2, c2, e2⟩ := st_AddrOp_sh t2
  subst e2
  rw [Nat.add_zero] at p0
  exact ⟨A2, c2, p0, p1, p2, t2⟩
end Go.Proofs.Ytbfbfimmhpijfaa
