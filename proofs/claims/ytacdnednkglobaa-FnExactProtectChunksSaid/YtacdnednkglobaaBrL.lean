/- Whole blocks of bytes: read, written, copied to. -/
import Derived.Test.YtacdnednkglobaaMa5
import Derived.Laws.CopyOwn
import Derived.Laws.IdiomCopy
namespace Go.Proofs.Ytacdnednkglobaa
open Go.RowKit Go.Deep

/-- A whole block of bytes. -/
def Brow (w : World) (g : Nat) (l : List Int) : Prop := Blk w g 5 (l.map (Value.int .u8)).toArray
theorem Brow.cell {w : World} {g : Nat} {l : List Int} (h : Brow w g l) (j : Nat) (hj : j < l.length) : w.cell? ⟨g, j, none⟩ = some (.int .u8 (l.getD j 0)) := by
  rw [Blk.cell h j]; simp [hj]
theorem Brow.set {w : World} {g : Nat} {l : List Int} (h : Brow w g l) (j : Nat) (v : Int) : Brow (w.setCell ⟨g, j, none⟩ (.int .u8 v)) g (l.set j v) := by
  have := heap_setCell_same w g j _ _ (.int .u8 v) h
  unfold Brow Blk
  rw [this]
  simp [List.map_set]
theorem Brow.ob {w : World} {g B : Nat} {l : List Int} (h : Brow w g l) (hB : B ≤ g) : Ob B w.heap.size w (some ⟨g, 0, none⟩) l :=
  .inr ⟨g, 0, rfl, hB, Blk.lt h, Nat.le_refl _, fun j hj => ⟨by rw [Nat.zero_add]; exact h.cell j hj, Blk.frozen h _⟩⟩
theorem Brow.of_own {w : World} {B e g n : Nat} {xs : List Value} {l : List Int} (h : w.ownsRow B e 1 (.slice (some ⟨g, 0, none⟩) n n) n xs) (he : e = 5) (hx : xs = l.map (Value.int .u8)) : Brow w g l := by
  rcases h.2 with ⟨h', _⟩ | ⟨g', cap', cur, h', hb, hg, hnc, hcm, hcs, htake⟩
  · simp at h'
  · simp only [Value.slice.injEq, Option.some.injEq, Addr.mk.injEq, and_true, true_and] at h'
    obtain ⟨rfl, rfl⟩ := h'
    have : cur.toList = xs := by rw [← htake, List.take_of_length_le (by simp; omega)]
    unfold Brow Blk
    rw [hg, he, ← hx, ← this]
theorem bs_src {w : World} {A : Option Addr} {l : List Int} (h : Bs w A l) (hp : 0 < l.length) : ∃ ad, A = some ad ∧ ∀ (j : Nat) v, (l.map (Value.int .u8))[j]? = some v → w.cell? (ad.add j) = some v := by
  rcases h with rfl | ⟨b, off, rfl, hb, hc⟩
  · simp at hp
  · refine ⟨_, rfl, fun j v hv => ?_⟩
    have hj : j < l.length := by
      rcases Nat.lt_or_ge j l.length with h | h
      · exact h
      · rw [List.getElem?_eq_none (by simpa using h)] at hv; cases hv
    have e : (⟨b, off, none⟩ : Addr).add j = ⟨b, off + j, none⟩ := by unfold Addr.add; split <;> simp_all
    rw [e, hc j hj, ← hv]
    simp [hj]
theorem made_u8 (N : Nat) : (madeCells (Value.int .u8 0).cells (N * 1)).toList = (List.replicate N (0 : Int)).map (Value.int .u8) := by
  rw [Nat.mul_one, show (Value.int IntKind.u8 0).cells = #[Value.int IntKind.u8 0] from rfl, toList_madeCells_one]
  simp
theorem run_copy_b {w : World} {g N c T : Nat} {A : Option Addr} {l X : List Int} (hB : Brow w g X) (hN : X.length = N) (hl : l.length ≤ N) (hA : Bs w A l) :
    ∃ w', (Builtin.copy_ #[25, 25] T #[.slice (some ⟨g, 0, none⟩) N N, .slice A l.length c]).run Try.prog w = .ok (goInt l.length) w' ∧ Brow w' g (l ++ X.drop l.length) ∧ Below g w w' := by
  have hmin : Nat.min l.length N = l.length := Nat.min_eq_left hl
  rcases Nat.eq_zero_or_pos l.length with h0 | h0
  · have hl0 : l = [] := List.eq_nil_of_length_eq_zero h0
    subst hl0
    refine ⟨w, ?_, by simpa using hB, Below.refl _ _⟩
    exact run_copy_none (P := Try.prog) w 25 25 T 5 (some ⟨g, 0, none⟩) A N N 0 c (by kernel_rfl) (by kernel_rfl) (by simp)
  · obtain ⟨ad, rfl, hsrc⟩ := bs_src hA h0
    have := run_copy_row (P := Try.prog) w 25 25 T 5 g 0 N N ad l.length c _ _ (l.map (Value.int .u8)) (by kernel_rfl) (by kernel_rfl) hB (by simp [hmin]) hsrc (by simp; omega) (by intro v hv; simp at hv; obtain ⟨x, _, rfl⟩ := hv; rfl)
    refine ⟨_, by simpa using this, ?_, below_setRow (Below.refl _ _) (Nat.le_refl _) _⟩
    unfold Brow Blk
    rw [setRow_heap w g _ _ _ _ hB]
    simp
end Go.Proofs.Ytacdnednkglobaa
