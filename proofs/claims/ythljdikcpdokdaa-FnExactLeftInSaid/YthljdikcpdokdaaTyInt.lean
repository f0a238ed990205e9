/- A number's result (WRITTEN BY tools/kinds.py) -/
import Derived.Test.YthljdikcpdokdaaUniO
namespace Go.Proofs.Ythljdikcpdokdaa
open Go.RowKit Go.Deep Go.ChangeShapes Go.WideShapes Go.ChangeAt

structure IntResultM where
  Code : Int
  Value : Int
def IntResultM.vs (x : IntResultM) : List V := [.int x.Code, .int x.Value]
theorem shape_IntResult {w : World} {n0 : Int} {n1 : Int} {vs : List Value} (h : RdA w [.int n0, .int n1] vs) : vs = [.int .i64 n0, .int .i64 n1] := by
  obtain ⟨q0, e0, t0⟩ := h.int_out
  subst e0
  obtain ⟨q1, e1, t1⟩ := t0.int_out
  subst e1
  have z := t1.nil_out
  subst z
  exact rfl
set_option maxRecDepth 100000 in
set_option maxHeartbeats 1000000 in
theorem eq_IntResult (n0 : Int) (n1 : Int) (w : World)   :
    Calls Try.prog 54 #[.agg #[.int .i64 n0, .int .i64 n1], .agg #[.int .i64 n0, .int .i64 n1]] w (EqR w) := by
  go_enter Try.func54, Try.ntmps54
  go_wp2
  go_ret
  exact ⟨rfl, bal (bal (Below.refl _ _) _) _⟩
theorem eqA_IntResult (y : IntResultM) {vs us : List Value} {w : World} (h : RdA w y.vs vs) (k : RdA w y.vs us) : Calls Try.prog 54 #[.agg vs.toArray, .agg us.toArray] w (EqR w) := by
  obtain rfl := shape_IntResult (h)
  obtain rfl := shape_IntResult (k)
  exact eq_IntResult y.Code y.Value  w  
end Go.Proofs.Ythljdikcpdokdaa
