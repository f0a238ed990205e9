/- Slices of numbers: what the laws' helpers eqInt64S, markInt64S, heldInt64S and toInt64S do. -/
import Derived.Test.YtbfbfimmhpijfaaBytes
import Derived.Deep.QuietTactic
import Derived.BigQuiet
import Derived.IntWalk
import Derived.Deep.OwnRows
namespace Go.Proofs.Ytbfbfimmhpijfaa
open Go.RowKit Go.Deep

theorem infoI64 : (Try.prog.info? 2).map (fun i => (i.zero, i.size, i.bytes)) = some (some (.int .i64 0), 1, 8) := by kernel_rfl

/-- A slice value at A reads as the numbers l. -/
def Is (w : World) (A : Option Addr) (l : List Int) : Prop :=
  l = [] ∨ ∃ b off, A = some ⟨b, off, none⟩ ∧ b < w.heap.size ∧ ∀ j, j < l.length → w.cell? ⟨b, off + j, none⟩ = some (.int .i64 (l.getD j 0))

theorem is_below {w w' : World} {A : Option Addr} {l : List Int} (h : Is w A l) (hb : Below w.heap.size w w') : Is w' A l := by
  rcases h with h | ⟨b, off, h1, h2, h3⟩
  · exact .inl h
  · exact .inr ⟨b, off, h1, Nat.lt_of_lt_of_le h2 hb.size, fun j hj => (hb.cell (p := ⟨b, off + j, none⟩) h2).trans (h3 j hj)⟩

def Ints (l : List Int) : Prop := ∀ x ∈ l, -9223372036854775808 ≤ x ∧ x ≤ 9223372036854775807
/-- What the law is told of a slice of numbers that came in, as the words here have it. -/
theorem row_is {w : World} {a : Option Addr} {len cap : Nat} {zs : List Int}
    (h : (a = none ∧ len = 0 ∧ cap = 0 ∧ zs = []) ∨ ∃ x, a = some x ∧ len ≤ cap ∧ cap ≤ maxLen ∧ zs.length = cap ∧ (∀ i, i < zs.length → w.cell? (x.add i) = some (.int .i64 (zs.getD i 0))) ∧ ∀ n ∈ zs, (Lit.int .i64 n).wf = true) :
    ∃ l : List Int, l.length = len ∧ Is w a l ∧ Ints l ∧ len ≤ cap ∧ (cap : Int) ≤ 9223372036854775807 := by
  rcases h with ⟨rfl, rfl, rfl, rfl⟩ | ⟨x, rfl, hl, hm, hz, hcell, hwz⟩
  · exact ⟨[], rfl, .inl rfl, fun x hx => by simp at hx, Nat.le_refl _, by omega⟩
  · unfold maxLen at hm
    have hll : (zs.take len).length = len := by rw [List.length_take]; omega
    refine ⟨zs.take len, hll, ?_, fun x hx => ?_, hl, by omega⟩
    · rcases Nat.eq_zero_or_pos len with h0 | h0
      · subst h0; exact .inl rfl
      · obtain ⟨b, off, spot⟩ := x
        have hc := hcell 0 (by omega)
        have hspot : spot = none := by simpa [Addr.add] using World.cell?_spot hc
        subst hspot
        have hc0 : w.cell? ⟨b, off, none⟩ = some (.int .i64 (zs.getD 0 0)) := by simpa [Addr.add] using hc
        refine .inr ⟨b, off, rfl, World.block_lt_of_cell? _ _ hc0, fun j hj => ?_⟩
        have h1 := hcell j (by omega)
        have e : (zs.take len).getD j 0 = zs.getD j 0 := by
          rw [List.getD_eq_getElem?_getD, List.getD_eq_getElem?_getD, List.getElem?_take_of_lt (by omega)]
        rw [e, ← h1]
        rcases j with _ | j <;> simp [Addr.add]
    · have h1 := hwz x (List.mem_of_mem_take hx)
      simp [Lit.wf, IntKind.min, IntKind.max, IntKind.signed, IntKind.bits] at h1
      omega

theorem is_win {B C : Nat} {w w' : World} {A : Option Addr} {l : List Int} (h : Is w A l) (hw : Win B C w w') (ho : ∀ b off, A = some ⟨b, off, none⟩ → b < B ∨ C ≤ b) : Is w' A l := by
  rcases h with h | ⟨b, off, h1, h2, h3⟩
  · exact .inl h
  · exact .inr ⟨b, off, h1, Nat.lt_of_lt_of_le h2 hw.size, fun j hj => (hw.cell (p := ⟨b, off + j, none⟩) h2 (ho b off h1)).trans (h3 j hj)⟩

/-- A slice value at A reads as the numbers l, in a block from B on and below C, and may be written. -/
def Oi (B C : Nat) (w : World) (A : Option Addr) (l : List Int) : Prop :=
  l = [] ∨ ∃ b off, A = some ⟨b, off, none⟩ ∧ B ≤ b ∧ b < C ∧ C ≤ w.heap.size ∧ ∀ j, j < l.length → w.cell? ⟨b, off + j, none⟩ = some (.int .i64 (l.getD j 0)) ∧ w.frozen? ⟨b, off + j, none⟩ = false
theorem Oi.is {B C : Nat} {w : World} {A : Option Addr} {l : List Int} (h : Oi B C w A l) : Is w A l := by
  rcases h with h | ⟨b, off, h1, h2, h3, h4, h5⟩
  · exact .inl h
  · exact .inr ⟨b, off, h1, by omega, fun j hj => (h5 j hj).1⟩
theorem Oi.below {B C : Nat} {w w' : World} {A : Option Addr} {l : List Int} (h : Oi B C w A l) (hb : Below w.heap.size w w') : Oi B C w' A l := by
  rcases h with h | ⟨b, off, h1, h2, h3, h4, h5⟩
  · exact .inl h
  · exact .inr ⟨b, off, h1, h2, h3, Nat.le_trans h4 hb.size, fun j hj => ⟨(hb.cell (p := ⟨b, off + j, none⟩) (by show b < _; omega)).trans (h5 j hj).1, (hb.frozen (p := ⟨b, off + j, none⟩) (by show b < _; omega)).trans (h5 j hj).2⟩⟩

/-- The world behind j nums from k on. -/
def markV (w : World) (b off : Nat) (k : Nat) : Nat → World
  | 0 => w
  | j + 1 => (markV w b off k j).setCell ⟨b, off + j, none⟩ (.int .i64 ((k + j : Nat) : Int))
def nums (k n : Nat) : List Int := (List.range n).map fun i => ((k + i : Nat) : Int)
theorem nums_len (k n : Nat) : (nums k n).length = n := by simp [nums]
theorem nums_at (k n i : Nat) (h : i < n) : (nums k n).getD i 0 = ((k + i : Nat) : Int) := by
  simp [nums, List.getD_eq_getElem?_getD, h]
theorem markV_size (w : World) (b off k j : Nat) : (markV w b off k j).heap.size = w.heap.size := by
  induction j with
  | zero => rfl
  | succ j ih => simp [markV, World.setCell, ih]
theorem markV_far (w : World) (b off k j : Nat) (i : Nat) (h : i ≠ b) : (markV w b off k j).heap[i]? = w.heap[i]? := by
  induction j with
  | zero => rfl
  | succ j ih => exact (Below.heap_setCell _ _ _ _ (by simpa using h)).trans ih
theorem markV_other (w : World) (b off k j : Nat) (q : Addr) (h : ∀ i, i < j → q ≠ ⟨b, off + i, none⟩) : (markV w b off k j).cell? q = w.cell? q := by
  induction j with
  | zero => rfl
  | succ j ih => exact (World.cell?_setCell_other _ _ _ _ (fun e => h j (by omega) e.symm)).trans (ih (fun i hi => h i (by omega)))
theorem markV_frozen (w : World) (b off k j : Nat) (q : Addr) : (markV w b off k j).frozen? q = w.frozen? q := by
  induction j with
  | zero => rfl
  | succ j ih => simp [markV, ih]
theorem markV_cell (w : World) (b off k j i : Nat) (h : i < j) (hc : ∀ i, i < j → ∃ v, w.cell? ⟨b, off + i, none⟩ = some v) :
    (markV w b off k j).cell? ⟨b, off + i, none⟩ = some (.int .i64 ((k + i : Nat) : Int)) := by
  induction j with
  | zero => omega
  | succ j ih =>
    by_cases e : i = j
    · subst e
      obtain ⟨v, hv⟩ := hc i h
      have hv' : (markV w b off k i).cell? ⟨b, off + i, none⟩ = some v := (markV_other w b off k i _ (fun t ht e => by injection e with _ e2; omega)).trans hv
      exact World.cell?_setCell_same _ _ _ hv'
    · exact (World.cell?_setCell_other _ _ _ _ (by intro e2; injection e2 with _ e3; omega)).trans (ih (by omega) (fun i hi => hc i (by omega)))

/-- The nums written over a slice that may be written. -/
theorem mark_iwin {B C : Nat} {w : World} {b off k : Nat} (hb : B ≤ b) (hc : b < C) (j : Nat) : Win B C w (markV w b off k j) :=
  ⟨by induction j with | zero => rfl | succ j ih => exact ih, by induction j with | zero => rfl | succ j ih => exact ih, by induction j with | zero => rfl | succ j ih => exact ih,
   by rw [markV_size]; exact Nat.le_refl _, fun i _ h => markV_far w b off k j i (by omega), fun a _ => markV_frozen w b off k j a⟩
theorem mark_is {w : World} {b off k n : Nat} (hb : b < w.heap.size) (hc : ∀ i, i < n → ∃ v, w.cell? ⟨b, off + i, none⟩ = some v) : Is (markV w b off k n) (some ⟨b, off, none⟩) (nums k n) :=
  .inr ⟨b, off, rfl, by rw [markV_size]; exact hb, fun j hj => by rw [nums_len] at hj; rw [markV_cell w b off k n j hj hc, nums_at k n j hj]⟩

theorem Oi.far {B C : Nat} {w : World} {A : Option Addr} {l : List Int} (h : Oi B C w A l) : l = [] ∨ ∃ b off, A = some ⟨b, off, none⟩ ∧ B ≤ b ∧ b < C := by
  rcases h with h | ⟨b, off, h1, h2, h3, _⟩
  · exact .inl h
  · exact .inr ⟨b, off, h1, h2, h3⟩
/-- What lies in one window is kept by a write into another. -/
theorem Oi.win {B C B' C' : Nat} {w w' : World} {A : Option Addr} {l : List Int} (h : Oi B C w A l) (hw : Win B' C' w w') (ho : C ≤ B' ∨ C' ≤ B) : Oi B C w' A l := by
  rcases h with h | ⟨b, off, h1, h2, h3, h4, h5⟩
  · exact .inl h
  · exact .inr ⟨b, off, h1, h2, h3, Nat.le_trans h4 hw.size, fun j hj => ⟨(hw.cell (p := ⟨b, off + j, none⟩) (by show b < _; omega) (by show b < _ ∨ _ ≤ b; omega)).trans (h5 j hj).1, (hw.frozen ⟨b, off + j, none⟩ (by show b < _; omega)).trans (h5 j hj).2⟩⟩
end Go.Proofs.Ytbfbfimmhpijfaa
