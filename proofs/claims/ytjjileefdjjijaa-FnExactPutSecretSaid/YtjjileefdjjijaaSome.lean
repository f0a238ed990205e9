/- Bytes that are drawn: l1Some; and l1Max. -/
import Derived.Test.YtjjileefdjjijaaDraw
namespace Go.Proofs.Ytjjileefdjjijaa
open Go.RowKit Go.Deep

theorem Win.grown {g : Nat} {w w' : World} (h : Win g (g + 1) w w') : w.grownBy w' (some g) :=
  ⟨h.os, h.tape, h.output, h.size, fun k hk hne => h.block k hk (by have : k ≠ g := fun e => hne (by rw [e]); omega)⟩
theorem Src.grown {w w' : World} {g : Nat} {A : Option Addr} {l : List Int} {c at_ : Nat} (h : Src w g A l c at_) {row : Option Nat} (hg : w.grownBy w' row) (hr : ∀ k, row = some k → g < k) : Src w' g A l c at_ := by
  have hlt := h.lt
  refine ⟨(hg.block g hlt (fun e => by have := hr g e.symm; omega)).trans h.blk, h.bytes, ?_, h.len⟩
  rcases h.row with h1 | ⟨b, off, h1, h2, h3⟩
  · exact .inl h1
  · exact .inr ⟨b, off, h1, h2, fun j hj => (World.cell?_of_block (a := ⟨b, off + j, none⟩) (hg.block b (by omega) (fun e => by have := hr b e.symm; omega))).trans (h3 j hj)⟩
/-- A write into a row that was not there at w is no write to what was there. -/
theorem Win.row {B C : Nat} {w a b : World} (h : Win B C w a) {row : Option Nat} (hg : a.grownBy b row) (hr : ∀ k, row = some k → w.heap.size ≤ k) : Win B C w b :=
  ⟨hg.os.trans h.os, hg.tape.trans h.tape, hg.output.trans h.output, Nat.le_trans h.size hg.size,
   fun k hk ho => (hg.block k (Nat.lt_of_lt_of_le hk h.size) (fun e => by have := hr k e.symm; omega)).trans (h.block k hk ho),
   fun q hq => (World.frozen?_of_block (hg.block q.block (Nat.lt_of_lt_of_le hq h.size) (fun e => by have := hr _ e.symm; omega))).trans (h.frozen q hq)⟩
theorem own_kept {w w' : World} {B g : Nat} {e : TypeId} {v : Value} {n : Nat} {xs : List Value} (h : w.ownsRow B e 1 v n xs) (hw : Win g (g + 1) w w') (hg : g < B) : w'.ownsRow B e 1 v n xs :=
  h.kept hw.grown (.inr (fun e => by have := h.lt g e; omega))
/-- Bytes that were drawn: a slice of bytes of the call's own. -/
def SomeRes (N : Nat) (w : World) (g : Nat) (A : Option Addr) (l : List Int) (c at_ : Nat) (e : Ending) (w' : World) : Prop :=
  ∃ (v : Value) (d : List Int) (at' : Nat), e = .returned v ∧ Bytes d ∧ d.length = N ∧ w'.ownsRow w.heap.size 5 1 v d.length (d.map (Value.int .u8)) ∧ Src w' g A l c at' ∧ at' ≤ at_ + N ∧ Win g (g + 1) w w'
theorem own_drewN {w : World} {B : Nat} {e : TypeId} {s : Nat} {v : Value} {n : Nat} {xs : List Value} (h : w.ownsRow B e s v n xs) (m : Nat) : (w.drewN m).ownsRow B e s v n xs := h
theorem own_grow {w wr w2 : World} {e : TypeId} {s n m : Nat} {v : Value} {xs : List Value} {o : Obj} (hB : Below w.heap.size w wr) (hown : wr.ownsRow w.heap.size e s v n xs) (hgrow : ((wr.drewN m).alloc o).grownBy w2 v.ownBlock) : Below w.heap.size w w2 :=
  (bal (below_drewN hB m) o).grown hgrow (bal (below_drewN hB m) o).size (fun k hk => (hown.lt k hk).1)
theorem own_mono {w : World} {B C : Nat} {e : TypeId} {s n : Nat} {v : Value} {xs : List Value} (h : w.ownsRow C e s v n xs) (hB : B ≤ C) : w.ownsRow B e s v n xs := by
  obtain ⟨h1, h2 | ⟨g, cap, cur, hv, hg, r⟩⟩ := h
  · exact ⟨h1, .inl h2⟩
  · exact ⟨h1, .inr ⟨g, cap, cur, hv, Nat.le_trans hB hg, r⟩⟩
end Go.Proofs.Ytjjileefdjjijaa
