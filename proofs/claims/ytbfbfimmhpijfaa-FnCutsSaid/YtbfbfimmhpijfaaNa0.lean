import Derived.Test.YtbfbfimmhpijfaaSome
import Derived.Test.YtbfbfimmhpijfaaPack
import Derived.Test.YtbfbfimmhpijfaaApp

/- The drawn arguments of WordAt: some bytes and some number. -/
namespace Go.Proofs.Ytbfbfimmhpijfaa
open Go.RowKit Go.Deep
theorem own_ob {w : World} {B : Nat} {v : Value} {d : List Int} (h : w.ownsRow B 5 1 v d.length (d.map (Value.int .u8))) :
    ∃ A cp, v = .slice A d.length cp ∧ Ob B w.heap.size w A d ∧ d.length ≤ cp ∧ (cp : Int) ≤ 9223372036854775807 := by
  have hc := fun g hg => h.cells (g := g) hg
  have hl := h.lt
  obtain ⟨_, ⟨rfl, hn⟩ | ⟨g, cap, cur, rfl, hg, hblk, hnc, hm, _, _⟩⟩ := h
  · have : d = [] := List.eq_nil_of_length_eq_zero hn
    subst this
    exact ⟨none, 0, rfl, .inl rfl, Nat.le_refl _, by omega⟩
  · unfold maxLen at hm
    refine ⟨_, cap, rfl, .inr ⟨g, 0, rfl, hg, (hl g rfl).2, Nat.le_refl _, fun j hj => ⟨?_, ?_⟩⟩, hnc, by omega⟩
    · have h1 := hc g rfl j (.int .u8 (d.getD j 0)) (by simp [hj])
      rw [Nat.zero_add, ← h1]
      rcases j with _ | j <;> simp [Addr.add]
    · simp [World.frozen?, hblk]
/-- Some bytes and some number come back. -/
def WAt (w : World) (e : Ending) (w' : World) : Prop :=
  ∃ A cp d n, e = .returned (.tuple #[.slice A (d : List Int).length cp, .int .i64 n]) ∧ Bs w' A d ∧ Bytes d ∧ d.length ≤ cp ∧ (cp : Int) ≤ 9223372036854775807 ∧ d.length ≤ 1000 ∧ Below w.heap.size w w'
end Go.Proofs.Ytbfbfimmhpijfaa

/- What WordAt answers, the program's and the model's. -/
namespace Go.Proofs.Ytbfbfimmhpijfaa
open Go.RowKit Go.Deep

theorem or_sum (k : Nat) (hi lo : Nat) (h : lo < 2 ^ k) : (hi * 2 ^ k) ||| lo = hi * 2 ^ k + lo := by
  rw [Nat.mul_comm, Nat.two_pow_add_eq_or_of_lt h]
theorem or4 (a b c d : Nat) (ha : a < 256) (hb : b < 256) (hc : c < 256) (hd : d < 256) :
    bits BinOp.or IntKind.u32 (bits BinOp.or IntKind.u32 (bits BinOp.or IntKind.u32 ((a : Int) * 16777216) ((b : Int) * 65536)) ((c : Int) * 256)) (d : Int) = (a : Int) * 16777216 + (b : Int) * 65536 + (c : Int) * 256 + (d : Int) := by
  have e1 : ((a : Int) * 16777216) = ((a * 16777216 : Nat) : Int) := by simp
  have e2 : ((b : Int) * 65536) = ((b * 65536 : Nat) : Int) := by simp
  have e3 : ((c : Int) * 256) = ((c * 256 : Nat) : Int) := by simp
  have s1 := or_sum 24 a (b * 65536) (by omega)
  have s2 := or_sum 16 (a * 256 + b) (c * 256) (by omega)
  have s3 := or_sum 8 ((a * 256 + b) * 256 + c) d (by omega)
  rw [e1, e2, e3, u32_or_nat _ _ (by omega) (by omega), show a * 16777216 ||| b * 65536 = (a * 256 + b) * 2 ^ 16 from by rw [show a * 16777216 = a * 2 ^ 24 from by omega, s1]; omega,
    u32_or_nat _ _ (by omega) (by omega), s2, show (a * 256 + b) * 2 ^ 16 + c * 256 = ((a * 256 + b) * 256 + c) * 2 ^ 8 from by omega, u32_or_nat _ _ (by omega) (by omega), s3]
  omega
/-- The word in the four bytes from at on. -/
def atW (l : List Int) (k : Nat) : Int := l.getD k 0 * 16777216 + l.getD (k + 1) 0 * 65536 + l.getD (k + 2) 0 * 256 + l.getD (k + 3) 0
def atC (l : List Int) (n : Int) : Int := if 0 ≤ n ∧ n ≤ (l.length : Int) - 4 then 0 else 3
def atV (l : List Int) (n : Int) : Int := if 0 ≤ n ∧ n ≤ (l.length : Int) - 4 then atW l n.toNat else 0
end Go.Proofs.Ytbfbfimmhpijfaa

/- The model's chunks: l1Pair, l1PairAt, ChunkFault. -/
namespace Go.Proofs.Ytbfbfimmhpijfaa
open Go.RowKit Go.Deep

theorem own_below0 {w w' : World} {B : Nat} {e : TypeId} {s n : Nat} {v : Value} {xs : List Value} (h : w.ownsRow B e s v n xs) (hb : Below w.heap.size w w') : w'.ownsRow B e s v n xs := by
  obtain ⟨h1, h2 | ⟨g, cap, cur, h3, h4, h5, h6⟩⟩ := h
  · exact ⟨h1, .inl h2⟩
  · exact ⟨h1, .inr ⟨g, cap, cur, h3, h4, (hb.block g (Array.getElem?_eq_some_iff.1 h5).1).trans h5, h6⟩⟩
theorem lit_bs2 {w : World} {g : Nat} {t : TypeId} {x y : Int} (h : Blk w g t #[.int .u8 x, .int .u8 y]) : Bs w (some ⟨g, 0, none⟩) [x, y] :=
  .inr ⟨g, 0, rfl, h.lt, fun j hj => by
    rw [Nat.zero_add, h.cell]
    match j, hj with
    | 0, _ => rfl
    | 1, _ => rfl⟩
theorem win_set (w : World) (g o : Nat) (u : Value) : Win g (g + 1) w (w.setCell ⟨g, o, none⟩ u) :=
  ⟨rfl, rfl, rfl, by simp [World.setCell], fun k _ ho => Below.heap_setCell _ _ _ _ (by show k ≠ g; omega), fun _ _ => World.frozen?_setCell _ _ _ _⟩
/-- A chunk's value. -/
def ckV (k f : Int) (A : Option Addr) (n c : Nat) : Value := .agg #[.int .i64 k, .int .i64 f, .slice A n c]
def chF (k f : Int) (b : List Int) : Int := if inB k 0 255 && inB f 0 255 then (if b.length ≤ 160 then 0 else 2) else 3
/-- A chunk's bytes: its head, its body, noughts to whole words. -/
def chPad (n : Nat) : Nat := (4 - n % 4) % 4
def chL (k f : Int) (b : List Int) : List Int := [k, f, ((b.length : Int) + 4) / 256, ((b.length : Int) + 4) % 256] ++ b ++ List.replicate (chPad b.length) 0
theorem chL_len (k f : Int) (b : List Int) : (chL k f b).length = 4 + b.length + chPad b.length := by simp [chL]; omega
/-- A chunk in memory: three cells from offset o of block g on, and its body. -/
structure CkB (w : World) (g o : Nat) (k f : Int) (A : Option Addr) (b : List Int) (c : Nat) : Prop where
  lt : g < w.heap.size
  c0 : w.cell? ⟨g, o, none⟩ = some (.int .i64 k)
  c1 : w.cell? ⟨g, o + 1, none⟩ = some (.int .i64 f)
  c2 : w.cell? ⟨g, o + 2, none⟩ = some (.slice A b.length c)
  body : Bs w A b
theorem CkB.below {w w' : World} {B g o : Nat} {k f : Int} {A : Option Addr} {b : List Int} {c : Nat} (h : CkB w g o k f A b c) (hb : Below B w w') (hB : w.heap.size ≤ B := by first | exact Nat.le_refl _ | assumption) : CkB w' g o k f A b c :=
  have hb' : Below w.heap.size w w' := hb.mono hB
  ⟨Nat.lt_of_lt_of_le h.lt hb'.size, (hb'.cell (p := ⟨g, o, none⟩) h.lt).trans h.c0, (hb'.cell (p := ⟨g, o + 1, none⟩) h.lt).trans h.c1, (hb'.cell (p := ⟨g, o + 2, none⟩) h.lt).trans h.c2, bs_below h.body hb'⟩
end Go.Proofs.Ytbfbfimmhpijfaa
