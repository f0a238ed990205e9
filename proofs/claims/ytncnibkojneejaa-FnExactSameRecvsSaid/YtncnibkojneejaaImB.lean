/- The program's isByte, ChunkFault, bytes.Clone, bytes.Equal. -/
import Derived.Test.YtncnibkojneejaaChS
import Derived.Test.YtncnibkojneejaaSame
import Derived.Lib.LazyBuf
import Derived.Deep.LoopGhost
namespace Go.Proofs.Ytncnibkojneejaa
open Go.RowKit Go.Deep

theorem str_eqb {x y : List Int} (hx : Bytes x) (hy : Bytes y) : ((strOfNums x).toList == (strOfNums y).toList) = decide (x = y) := by
  rw [ByteArray.toList_eq, ByteArray.toList_eq]
  by_cases e : x = y
  · subst e; simp
  · have : (strOfNums x).data.toList ≠ (strOfNums y).data.toList := fun h => e (strOfNums_inj hx hy (by
      cases hx : strOfNums x; cases hy : strOfNums y
      rw [hx, hy] at h
      simpa using h))
    rw [beq_eq_false_iff_ne.2 this, decide_eq_false e]
set_option maxHeartbeats 1000000 in
theorem bEqual_any (A B : Option Addr) (a b : List Int) (ca cb : Nat) (w : World) (hA : Bs w A a) (hB : Bs w B b) (ba : Bytes a) (bb : Bytes b) :
    Calls Try.prog 98 #[.slice A a.length ca, .slice B b.length cb] w fun e w' => e = .returned (.bool (decide (a = b))) ∧ w = w' := by
  have h1 := conv_bs w A a ca hA
  have h2 := conv_bs w B b cb hB
  have HS := hidH (str_eqb ba bb)
  clear hA hB
  go_enter Try.func98, Try.ntmps98
  go_wp2
  go_ret
  exact ⟨by rw [← HS.out]; rfl, rfl⟩
end Go.Proofs.Ytncnibkojneejaa
