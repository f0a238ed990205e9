/- The drawn arguments of chapter 1's laws: some numbers; nothing that was there turns. -/
import Derived.Test.YtepcikghhnfacaaDraw
import Derived.Test.YtepcikghhnfacaaLess
namespace Go.Proofs.Ytepcikghhnfacaa
open Go.RowKit Go.Deep

/-- Two numbers come back; what was there has not turned. -/
def Two (w : World) (e : Ending) (w' : World) : Prop := ∃ a b : Int, e = .returned (.tuple #[.int .i64 a, .int .i64 b]) ∧ Below w.heap.size w w'
end Go.Proofs.Ytepcikghhnfacaa
