/- The drawing of inputs out of the bytes of a code: what l1Source, l1Next, l1Pick, l1Chance, l1Draw, l1Bent leave. What is drawn is some number in its range; nothing more is said. -/
import Derived.Test.YtjjileefdjjijaaBytes
namespace Go.Proofs.Ytjjileefdjjijaa
open Go.RowKit Go.Deep

/-- Block g is a source of draws over the bytes l, of which at have been drawn. -/
structure Src (w : World) (g : Nat) (A : Option Addr) (l : List Int) (c at_ : Nat) : Prop where
  blk : Blk w g 0 #[.slice A l.length c, .int .i64 at_]
  bytes : Bytes l
  row : l = [] ∨ ∃ b off, A = some ⟨b, off, none⟩ ∧ b < g ∧ ∀ j, j < l.length → w.cell? ⟨b, off + j, none⟩ = some (.int .u8 (l.getD j 0))
  len : (l.length : Int) ≤ 1048576

def NextRes (w : World) (g : Nat) (A : Option Addr) (l : List Int) (c at_ : Nat) (n : Int) (e : Ending) (w' : World) : Prop :=
  ∃ v : Int, e = .returned (.int .i64 v) ∧ 0 ≤ v ∧ (v < n ∨ v = 0) ∧ Src w' g A l c (at_ + 1) ∧ Win g (g + 1) w w' ∧ w'.heap.size = w.heap.size

theorem Src.lt {w : World} {g : Nat} {A : Option Addr} {l : List Int} {c at_ : Nat} (h : Src w g A l c at_) : g < w.heap.size := h.blk.lt
/-- One draw more: the count's cell is written. -/
theorem Src.next {w : World} {g : Nat} {A : Option Addr} {l : List Int} {c at_ : Nat} (h : Src w g A l c at_) : Src (w.setCell ⟨g, 1, none⟩ (.int .i64 ((at_ : Int) + 1))) g A l c (at_ + 1) := by
  refine ⟨?_, h.bytes, ?_, h.len⟩
  · have hb := h.blk
    unfold Blk at hb ⊢
    simp [World.setCell, Array.getElem?_modify, hb]
  · rcases h.row with h1 | ⟨b, off, h1, h2, h3⟩
    · exact .inl h1
    · exact .inr ⟨b, off, h1, h2, fun j hj => (World.cell?_setCell_other _ _ _ _ (fun e => by injection e with e1 _; omega)).trans (h3 j hj)⟩
theorem Src.drewN {w : World} {g : Nat} {A : Option Addr} {l : List Int} {c at_ : Nat} (h : Src w g A l c at_) (n : Nat) : Src (w.drewN n) g A l c at_ := ⟨h.blk, h.bytes, h.row, h.len⟩
theorem next_win (w : World) (g : Nat) (u : Value) : Win g (g + 1) w (w.setCell ⟨g, 1, none⟩ u) :=
  ⟨rfl, rfl, rfl, by simp [World.setCell], fun k _ h => Below.heap_setCell _ _ _ _ (by show k ≠ g; omega), fun a _ => World.frozen?_setCell _ _ _ _⟩
theorem Win.drewN {B C : Nat} {a w : World} (h : Win B C a w) (n : Nat) : Win B C a (w.drewN n) := ⟨h.os, h.tape, h.output, h.size, h.block, h.frozen⟩
theorem next_res {w : World} {g : Nat} {A : Option Addr} {l : List Int} {c at_ : Nat} (h : Src w g A l c at_) {n v : Int} (h0 : 0 ≤ v) (h1 : v < n ∨ v = 0) (m : Nat) :
    NextRes w g A l c at_ n (.returned (.int .i64 v)) ((w.setCell ⟨g, 1, none⟩ (.int .i64 ((at_ : Int) + 1))).drewN m) :=
  ⟨v, rfl, h0, h1, h.next.drewN m, (next_win w g _).drewN m, by simp [World.setCell, World.drewN]⟩

/-- At most k draws: some number of which P holds; nothing but the source's block and new blocks has turned. -/
def DRes (k : Nat) (P : Int → Prop) (w : World) (g : Nat) (A : Option Addr) (l : List Int) (c at_ : Nat) (e : Ending) (w' : World) : Prop :=
  ∃ (v : Int) (at' : Nat), e = .returned (.int .i64 v) ∧ P v ∧ at' ≤ at_ + k ∧ Src w' g A l c at' ∧ Win g (g + 1) w w'
/-- A block from its start on reads as the numbers vs. -/
def Ns (w : World) (B : Nat) (vs : List Int) : Prop := B < w.heap.size ∧ ∀ j, j < vs.length → w.cell? ⟨B, j, none⟩ = some (.int .i64 (vs.getD j 0))
theorem Ns.of_blk {w : World} {B : Nat} {t : TypeId} {vs : List Int} (h : Blk w B t (vs.map (Value.int .i64)).toArray) : Ns w B vs :=
  ⟨h.lt, fun j hj => by rw [h.cell]; simp [hj]⟩
theorem Src.below {w w' : World} {g : Nat} {A : Option Addr} {l : List Int} {c at_ : Nat} (h : Src w g A l c at_) (hb : Below w.heap.size w w') : Src w' g A l c at_ := by
  refine ⟨h.blk.below hb, h.bytes, ?_, h.len⟩
  rcases h.row with h1 | ⟨b, off, h1, h2, h3⟩
  · exact .inl h1
  · have := h.lt
    exact .inr ⟨b, off, h1, h2, fun j hj => (hb.cell (p := ⟨b, off + j, none⟩) (by show b < _; omega)).trans (h3 j hj)⟩
end Go.Proofs.Ytjjileefdjjijaa
