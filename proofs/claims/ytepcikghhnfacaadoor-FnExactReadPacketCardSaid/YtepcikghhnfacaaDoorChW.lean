/- The laws' helpers for chunks: szByteS, szChunk, toChunk, eqChunk, markChunk. -/
import Derived.Test.YtepcikghhnfacaaDoorChL
import Derived.Test.YtepcikghhnfacaaDoorLawKit0
namespace Go.Proofs.YtepcikghhnfacaaDoor
open Go.RowKit Go.Deep

theorem Blk.three {w : World} {g : Nat} {t : TypeId} {a b c : Value} (h : Blk w g t #[a, b, c]) : w.cell? ⟨g, 0, none⟩ = some a ∧ w.cell? ⟨g, 1, none⟩ = some b ∧ w.cell? ⟨g, 2, none⟩ = some c ∧ g < w.heap.size := ⟨h.cell 0, h.cell 1, h.cell 2, h.lt⟩
theorem chM_le (k f : Int) (b : List Int) : ((chM k f b).length : Int) ≤ 100000 := by
  unfold chM
  split
  · next h =>
    have := chF_zero h
    rw [chL_len]; unfold chPad; omega
  · simp
theorem three_of {α : Type} {cs : Array α} (h : cs.size = 3) : ∃ a b c, cs = #[a, b, c] := by
  obtain ⟨l⟩ := cs
  rcases l with _ | ⟨a, _ | ⟨b, _ | ⟨c, _ | ⟨d, r⟩⟩⟩⟩ <;> simp at h
  exact ⟨a, b, c, rfl⟩
def szL (left : Int) (n : Nat) : Int := if left - (n : Int) < 0 then -1 else left - (n : Int)
theorem szL_le (left : Int) (n : Nat) (h1 : left ≤ 1048576) : -1 ≤ szL left n ∧ szL left n ≤ 1048576 := by unfold szL; split <;> omega
set_option maxHeartbeats 1000000 in
theorem eqCh_same (k f : Int) (A B : Option Addr) (b : List Int) (c d : Nat) (w : World) (hA : Bs w A b) (hB : Bs w B b) (hm : (b.length : Int) ≤ 9223372036854775807) :
    Calls Tryd.prog 79 #[ckV k f A b.length c, ckV k f B b.length d] w fun e w' => e = .returned (.bool true) ∧ Below w.heap.size w w' := by
  have B2 := bal (bal (Below.refl w.heap.size w) (.cells #[.int .i64 k, .int .i64 f, .slice A b.length c] 49)) (.cells #[.int .i64 k, .int .i64 f, .slice B b.length d] 49)
  have HS := hidH (eqB_same A B b c d _ (bs_below hA B2) (bs_below hB B2) hm)
  have HB := hidH B2
  unfold ckV
  clear hA hB B2
  go_enter Tryd.func79, Tryd.ntmps79
  go_wp2_with fail
  refine HS.out.mono ?_
  rintro e w' ⟨rfl, dd, rfl⟩
  go_wp2
  go_ret
  exact ⟨rfl, below_drewN HB.out _⟩
end Go.Proofs.YtepcikghhnfacaaDoor
