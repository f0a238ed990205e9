/- The drawn arguments of WordAt: some bytes and some number. -/
import Derived.Test.YthljdikcpdokdaaSome
namespace Go.Proofs.Ythljdikcpdokdaa
open Go.RowKit Go.Deep
theorem own_ob {w : World} {B : Nat} {v : Value} {d : List Int} (h : w.ownsRow B 5 1 v d.length (d.map (Value.int .u8))) :
    ∃ A cp, v = .slice A d.length cp ∧ Ob B w.heap.size w A d ∧ d.length ≤ cp ∧ (cp : Int) ≤ 9223372036854775807 := by
  have hc := fun g hg => h.cells (g := g) hg
  have hl := h.lt
  obtain ⟨_, ⟨rfl, hn⟩ | ⟨g, cap, cur, rfl, hg, hblk, hnc, hm, _, _⟩⟩ := h
  · have : d = [] := List.eq_nil_of_length_eq_zero hn
    subst this
    exact ⟨none, 0, rfl, .inl rfl, Nat.le_refl _, by omega⟩
  · unfold maxLen at hm
    refine ⟨_, cap, rfl, .inr ⟨g, 0, rfl, hg, (hl g rfl).2, Nat.le_refl _, fun j hj => ⟨?_, ?_⟩⟩, hnc, by omega⟩
    · have h1 := hc g rfl j (.int .u8 (d.getD j 0)) (by simp [hj])
      rw [Nat.zero_add, ← h1]
      rcases j with _ | j <;> simp [Addr.add]
    · simp [World.frozen?, hblk]
/-- Some bytes and some number come back. -/
def WAt (w : World) (e : Ending) (w' : World) : Prop :=
  ∃ A cp d n, e = .returned (.tuple #[.slice A (d : List Int).length cp, .int .i64 n]) ∧ Bs w' A d ∧ Bytes d ∧ d.length ≤ cp ∧ (cp : Int) ≤ 9223372036854775807 ∧ d.length ≤ 1000 ∧ Below w.heap.size w w'
end Go.Proofs.Ythljdikcpdokdaa
