/- The program's isByte, ChunkFault, bytes.Clone, bytes.Equal. -/
import Derived.Test.YtgghelpbobbkgaaChS
import Derived.Test.YtgghelpbobbkgaaSame
import Derived.Lib.LazyBuf
import Derived.Deep.LoopGhost
namespace Go.Proofs.Ytgghelpbobbkgaa
open Go.RowKit Go.Deep

theorem str_eqb {x y : List Int} (hx : Bytes x) (hy : Bytes y) : ((strOfNums x).toList == (strOfNums y).toList) = decide (x = y) := by
  rw [ByteArray.toList_eq, ByteArray.toList_eq]
  by_cases e : x = y
  · subst e; simp
  · have : (strOfNums x).data.toList ≠ (strOfNums y).data.toList := fun h => e (strOfNums_inj hx hy (by
      cases hx : strOfNums x; cases hy : strOfNums y
      rw [hx, hy] at h
      simpa using h))
    rw [beq_eq_false_iff_ne.2 this, decide_eq_false e]
end Go.Proofs.Ytgghelpbobbkgaa
