/- BytesResult (WRITTEN BY tools/kinds.py) -/
import Derived.Test.YtacdnednkglobaaGreatDoorUniR
namespace Go.Proofs.YtacdnednkglobaaGreatDoor
open Go.RowKit Go.Deep Go.ChangeShapes Go.WideShapes Go.ChangeAt

structure BytesResultM where
  Code : Int
  Bytes : List Int
def BytesResultM.vs (x : BytesResultM) : List V := [.int x.Code, .bs x.Bytes]
theorem shape_BytesResult {w : World} {n0 : Int} {l1 : List Int} {vs : List Value} (h : RdA w [.int n0, .bs l1] vs) : ∃ (A1 : Option Addr) (c1 : Nat), vs = [.int .i64 n0, .slice A1 l1.length c1] := by
  obtain ⟨q0, e0, t0⟩ := h.int_out
  subst e0
  obtain ⟨v1, q1, e1, h1, t1⟩ := t0.any_out
  obtain ⟨A1, c1, a1⟩ := h1.bs_sh
  subst e1 a1
  have z := t1.nil_out
  subst z
  exact ⟨A1, c1, rfl⟩
theorem cnt_BytesResult (y : BytesResultM) (h : tot.totL y.vs ≤ 1048576) : vcA y.vs ≤ 1000000000 := by
  simp only [BytesResultM.vs, vcA, vc, tot.totL, tot, cc] at *
  omega
theorem mem_BytesResult {w : World} {g o : Nat} {y : BytesResultM} (h : RdL w y.vs g o) : ∃ (A1 : Option Addr) (c1 : Nat), w.cell? ⟨g, o, none⟩ = some (.int .i64 y.Code) ∧ w.cell? ⟨g, o + 1, none⟩ = some (.slice A1 y.Bytes.length c1) ∧ Rd w (.bs y.Bytes) (.slice A1 y.Bytes.length c1) := by
  obtain ⟨u0, p0, t0⟩ := h.get? 0 (.int y.Code) rfl
  have e0 := t0.int_out
  subst e0
  obtain ⟨u1, p1, t1⟩ := h.get? 1 (.bs y.Bytes) rfl
  obtain ⟨A1, c1, e1⟩ := t1.bs_sh
  subst e1
  rw [Nat.add_zero] at p0
  exact ⟨A1, c1, p0, p1, t1⟩
end Go.Proofs.YtacdnednkglobaaGreatDoor
