/- Copies whose address is left open, for the exact laws. -/
import Derived.Test.YthljdikcpdokdaaPack
import Derived.Test.YthljdikcpdokdaaInts
namespace Go.Proofs.Ythljdikcpdokdaa
open Go.RowKit Go.Deep

theorem Ob.upto {B C C' : Nat} {w : World} {A : Option Addr} {l : List Int} (h : Ob B C w A l) (h1 : C ≤ C') (h2 : C' ≤ w.heap.size) : Ob B C' w A l := by
  rcases h with h | ⟨b, off, h1', h2', h3, h4, h5⟩
  · exact .inl h
  · exact .inr ⟨b, off, h1', h2', by omega, h2, h5⟩
theorem Oi.upto {B C C' : Nat} {w : World} {A : Option Addr} {l : List Int} (h : Oi B C w A l) (h1 : C ≤ C') (h2 : C' ≤ w.heap.size) : Oi B C' w A l := by
  rcases h with h | ⟨b, off, h1', h2', h3, h4, h5⟩
  · exact .inl h
  · exact .inr ⟨b, off, h1', h2', by omega, h2, h5⟩
theorem toB' (A : Option Addr) (l : List Int) (c : Nat) (w : World) (hA : Bs w A l) (hm : l.length ≤ 281474976710656) :
    Calls Try.prog 122 #[.slice A l.length c] w fun e w' => ∃ A', e = .returned (.slice A' l.length l.length) ∧ Ob w.heap.size w'.heap.size w' A' l ∧ Below w.heap.size w w' :=
  (toB_any A l c w hA hm).mono fun _ _ h => ⟨_, h.1, h.2.1.upto (by omega) (Nat.le_refl _), h.2.2.1⟩
theorem toI' (A : Option Addr) (l : List Int) (c : Nat) (w : World) (hA : Is w A l) (hm : 8 * l.length ≤ 281474976710656) :
    Calls Try.prog 112 #[.slice A l.length c] w fun e w' => ∃ A', e = .returned (.slice A' l.length l.length) ∧ Oi w.heap.size w'.heap.size w' A' l ∧ Below w.heap.size w w' :=
  (toI_any A l c w hA hm).mono fun _ _ h => ⟨_, h.1, h.2.1.upto (by omega) (Nat.le_refl _), h.2.2.1⟩
end Go.Proofs.Ythljdikcpdokdaa
