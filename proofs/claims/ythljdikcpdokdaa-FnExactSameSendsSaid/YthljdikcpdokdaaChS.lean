/- The model's chunks: l1Pair, l1PairAt, ChunkFault. -/
import Derived.Test.YthljdikcpdokdaaApp
import Derived.Test.YthljdikcpdokdaaDrawAt
import Derived.Test.YthljdikcpdokdaaAt
namespace Go.Proofs.Ythljdikcpdokdaa
open Go.RowKit Go.Deep

theorem own_below0 {w w' : World} {B : Nat} {e : TypeId} {s n : Nat} {v : Value} {xs : List Value} (h : w.ownsRow B e s v n xs) (hb : Below w.heap.size w w') : w'.ownsRow B e s v n xs := by
  obtain ⟨h1, h2 | ⟨g, cap, cur, h3, h4, h5, h6⟩⟩ := h
  · exact ⟨h1, .inl h2⟩
  · exact ⟨h1, .inr ⟨g, cap, cur, h3, h4, (hb.block g (Array.getElem?_eq_some_iff.1 h5).1).trans h5, h6⟩⟩
theorem lit_bs2 {w : World} {g : Nat} {t : TypeId} {x y : Int} (h : Blk w g t #[.int .u8 x, .int .u8 y]) : Bs w (some ⟨g, 0, none⟩) [x, y] :=
  .inr ⟨g, 0, rfl, h.lt, fun j hj => by
    rw [Nat.zero_add, h.cell]
    match j, hj with
    | 0, _ => rfl
    | 1, _ => rfl⟩
theorem win_set (w : World) (g o : Nat) (u : Value) : Win g (g + 1) w (w.setCell ⟨g, o, none⟩ u) :=
  ⟨rfl, rfl, rfl, by simp [World.setCell], fun k _ ho => Below.heap_setCell _ _ _ _ (by show k ≠ g; omega), fun _ _ => World.frozen?_setCell _ _ _ _⟩
/-- A chunk's value. -/
def ckV (k f : Int) (A : Option Addr) (n c : Nat) : Value := .agg #[.int .i64 k, .int .i64 f, .slice A n c]
def chF (k f : Int) (b : List Int) : Int := if inB k 0 255 && inB f 0 255 then (if b.length ≤ 160 then 0 else 2) else 3
/-- A chunk's bytes: its head, its body, noughts to whole words. -/
def chPad (n : Nat) : Nat := (4 - n % 4) % 4
def chL (k f : Int) (b : List Int) : List Int := [k, f, ((b.length : Int) + 4) / 256, ((b.length : Int) + 4) % 256] ++ b ++ List.replicate (chPad b.length) 0
theorem chL_len (k f : Int) (b : List Int) : (chL k f b).length = 4 + b.length + chPad b.length := by simp [chL]; omega
/-- A chunk in memory: three cells from offset o of block g on, and its body. -/
structure CkB (w : World) (g o : Nat) (k f : Int) (A : Option Addr) (b : List Int) (c : Nat) : Prop where
  lt : g < w.heap.size
  c0 : w.cell? ⟨g, o, none⟩ = some (.int .i64 k)
  c1 : w.cell? ⟨g, o + 1, none⟩ = some (.int .i64 f)
  c2 : w.cell? ⟨g, o + 2, none⟩ = some (.slice A b.length c)
  body : Bs w A b
theorem CkB.below {w w' : World} {B g o : Nat} {k f : Int} {A : Option Addr} {b : List Int} {c : Nat} (h : CkB w g o k f A b c) (hb : Below B w w') (hB : w.heap.size ≤ B := by first | exact Nat.le_refl _ | assumption) : CkB w' g o k f A b c :=
  have hb' : Below w.heap.size w w' := hb.mono hB
  ⟨Nat.lt_of_lt_of_le h.lt hb'.size, (hb'.cell (p := ⟨g, o, none⟩) h.lt).trans h.c0, (hb'.cell (p := ⟨g, o + 1, none⟩) h.lt).trans h.c1, (hb'.cell (p := ⟨g, o + 2, none⟩) h.lt).trans h.c2, bs_below h.body hb'⟩
end Go.Proofs.Ythljdikcpdokdaa
