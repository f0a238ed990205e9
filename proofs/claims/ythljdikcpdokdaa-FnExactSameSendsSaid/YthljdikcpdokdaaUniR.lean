/- What a call leaves that answers a number; a bool. The tree of a BytesResult. -/
import Derived.Test.YthljdikcpdokdaaUniO
namespace Go.Proofs.Ythljdikcpdokdaa
open Go.RowKit Go.Deep

def IntR (n : Int) (w : World) (e : Ending) (w' : World) : Prop := e = .returned (.int .i64 n) ∧ Below w.heap.size w w'
def BolR (b : Bool) (w : World) (e : Ending) (w' : World) : Prop := e = .returned (.bool b) ∧ Below w.heap.size w w'
end Go.Proofs.Ythljdikcpdokdaa
