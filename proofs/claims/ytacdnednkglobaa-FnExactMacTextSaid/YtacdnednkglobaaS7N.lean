/- Chapter 7: how long MacText's answer may be. -/
import Derived.Test.YtacdnednkglobaaMa7
import Derived.Test.YtacdnednkglobaaMa3
namespace Go.Proofs.Ytacdnednkglobaa
open Go.RowKit Go.Deep

theorem mtR_len (id : Int) (r : List ChunkM) (_ : WfV (.int id)) (_ : WfV (st_Chunk r)) (_ : tot (st_Chunk r) ≤ 1048576) : vcA (mtR id r).vs ≤ 1000000000 := by
  unfold mtR
  split
  · next h =>
    have := (mtF_zero h).2.2
    show 0 + ((txtL id r).length + 0) ≤ _
    omega
  · show 0 + (0 + 0) ≤ _
    omega
end Go.Proofs.Ytacdnednkglobaa
