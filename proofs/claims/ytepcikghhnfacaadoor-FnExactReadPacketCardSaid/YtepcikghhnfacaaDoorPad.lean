/- The model's padding of a message: l2Pad, PadMessage. -/
import Derived.Test.YtepcikghhnfacaaDoorApp
import Derived.Test.YtepcikghhnfacaaDoorDrawAt
import Derived.Deep.LoopGhost
namespace Go.Proofs.YtepcikghhnfacaaDoor
open Go.RowKit Go.Deep

/-- How many zero bytes. -/
def zerosN (n : Nat) : Nat := (119 - n % 64) % 64
def padTo (l : List Int) (k : Nat) : List Int := l ++ 128 :: List.replicate k 0
def padL (l : List Int) : List Int := padTo l (zerosN l.length) ++ [0, 0, 0, 0] ++ pk (8 * l.length)
theorem padTo_len (l : List Int) (k : Nat) : (padTo l k).length = l.length + 1 + k := by simp [padTo]; omega
theorem padTo_succ (l : List Int) (k : Nat) : padTo l (k + 1) = padTo l k ++ [0] := by simp [padTo, List.replicate_succ']
theorem zeros_test (n k : Nat) (hk : k ≤ zerosN n) : (n + 1 + k) % 64 = 56 ↔ k = zerosN n := by unfold zerosN at *; omega
theorem padL_len (l : List Int) : (padL l).length = l.length + 9 + zerosN l.length := by
  rw [padL, List.length_append, List.length_append, padTo_len]; simp [pk]; omega
theorem own_bres {w0 w : World} {v : Value} {l : List Int} (x : Int) (h : w.ownsRow w0.heap.size 5 1 v l.length (l.map (Value.int .u8))) (hb : Below w0.heap.size w0 w) :
    ∃ A cp, v = .slice A l.length cp ∧ BRes w0 x l (.returned (.agg #[.int .i64 x, .slice A l.length cp])) w := by
  obtain ⟨A, cp, rfl, ob, h1, h2⟩ := own_ob h
  exact ⟨A, cp, rfl, A, cp, rfl, ob, hb, h1, h2⟩
theorem Ob.setCell {B C : Nat} {w : World} {A : Option Addr} {l : List Int} (h : Ob B C w A l) {p : Addr} (hp : p.block < B) (u : Value) : Ob B C (w.setCell p u) A l := by
  rcases h with h | ⟨b, off, h1, h2, h3, h4, h5⟩
  · exact .inl h
  · exact .inr ⟨b, off, h1, h2, h3, by simpa [World.setCell] using h4, fun j hj => ⟨(World.cell?_setCell_other _ _ _ _ (fun e => by subst e; simp at hp; omega)).trans (h5 j hj).1, (World.frozen?_setCell _ _ _ _).trans (h5 j hj).2⟩⟩
theorem Ob.mono {B B' C : Nat} {w : World} {A : Option Addr} {l : List Int} (h : Ob B C w A l) (hB : B' ≤ B) : Ob B' C w A l := by
  rcases h with h | ⟨b, off, h1, h2, h3, h4, h5⟩
  · exact .inl h
  · exact .inr ⟨b, off, h1, by omega, h3, h4, h5⟩
theorem bres_set {w w1 : World} {A : Option Addr} {l : List Int} {cp : Nat} (x : Int) (hO : Ob (w.heap.size + 1) w1.heap.size w1 A l) (hb : Below w.heap.size w w1) (h1 : l.length ≤ cp) (h2 : (cp : Int) ≤ 9223372036854775807) (u0 u1 : Value) :
    BRes w x l (.returned (.agg #[.int .i64 x, .slice A l.length cp])) ((w1.setCell ⟨w.heap.size, 0, none⟩ u0).setCell ⟨w.heap.size, 1, none⟩ u1) := by
  have e : ((w1.setCell ⟨w.heap.size, 0, none⟩ u0).setCell ⟨w.heap.size, 1, none⟩ u1).heap.size = w1.heap.size := by simp [World.setCell]
  refine ⟨A, cp, rfl, ?_, bst (bst hb (Nat.le_refl _) _) (Nat.le_refl _) _, h1, h2⟩
  rw [e]
  exact ((hO.setCell (p := ⟨w.heap.size, 0, none⟩) (Nat.lt_succ_self _) _).setCell (p := ⟨w.heap.size, 1, none⟩) (Nat.lt_succ_self _) _).mono (Nat.le_succ _)
def padC (l : List Int) : Int := if l.length ≤ 700 then 0 else 2
def padM (l : List Int) : List Int := if l.length ≤ 700 then padL l else []
end Go.Proofs.YtepcikghhnfacaaDoor
