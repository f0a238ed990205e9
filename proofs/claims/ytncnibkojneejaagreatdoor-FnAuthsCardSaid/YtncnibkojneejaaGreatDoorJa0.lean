import Derived.Test.YtncnibkojneejaaGreatDoorProg
import Derived.WalkKit
import Derived.WalkSpells
import Derived.WalkLawsBesides
import Derived.Laws.Rows
import Derived.Deep.QuietTactic
import Derived.BigQuiet
import Derived.IntWalk
import Derived.Deep.OwnRows

/- What the functions of chapter 1 (words and serial numbers) answer, the program's and the model's, call by call. No condition but those that each line bears. -/
namespace Go.Proofs.YtncnibkojneejaaGreatDoor
open Go.RowKit

theorem bal {a w : World} (h : Below a.heap.size a w) (o : Obj) : Below a.heap.size a (w.alloc o) := h.alloc h.size o
theorem btr {a b c : World} (h : Below a.heap.size a b) (k : Below b.heap.size b c) : Below a.heap.size a c := h.trans (k.mono h.size)
theorem bst {a w : World} (h : Below a.heap.size a w) {p : Addr} (hp : a.heap.size ≤ p.block) (u : Value) : Below a.heap.size a (w.setCell p u) := h.setCell hp u

theorem below_drewN {B : Nat} {a w : World} (h : Below B a w) (n : Nat) : Below B a (w.drewN n) := ⟨h.os, h.tape, h.output, h.size, h.block⟩
/-- Block g is just the cells cs of element type t, none frozen. -/
def Blk (w : World) (g : Nat) (t : TypeId) (cs : Array Value) : Prop := w.heap[g]? = some (.cells cs t (0, 0))
theorem Blk.lt {w : World} {g : Nat} {t : TypeId} {cs : Array Value} (h : Blk w g t cs) : g < w.heap.size := by
  rcases Nat.lt_or_ge g w.heap.size with hlt | hge
  · exact hlt
  · unfold Blk at h; rw [Array.getElem?_eq_none hge] at h; cases h
theorem Blk.cell {w : World} {g : Nat} {t : TypeId} {cs : Array Value} (h : Blk w g t cs) (i : Nat) : w.cell? ⟨g, i, none⟩ = cs[i]? := cell_of_row w g i cs t (0, 0) h
theorem Blk.frozen {w : World} {g : Nat} {t : TypeId} {cs : Array Value} (h : Blk w g t cs) (i : Nat) : w.frozen? ⟨g, i, none⟩ = false := by
  unfold Blk at h
  simp [World.frozen?, h]
theorem Blk.new (w : World) (t : TypeId) (cs : Array Value) : Blk (w.alloc (.cells cs t)) w.heap.size t cs := heap_alloc_new w _
theorem Blk.alloc {w : World} {g : Nat} {t : TypeId} {cs : Array Value} (h : Blk w g t cs) (o : Obj) : Blk (w.alloc o) g t cs := (Below.heap_alloc w o g h.lt).trans h
theorem Blk.below {w w' : World} {g : Nat} {t : TypeId} {cs : Array Value} (h : Blk w g t cs) (hb : Below w.heap.size w w') : Blk w' g t cs := (hb.block g h.lt).trans h
/-- What the walk wants of a block of two cells. -/
theorem Blk.two {w : World} {g : Nat} {t : TypeId} {a b : Value} (h : Blk w g t #[a, b]) : w.cell? ⟨g, 0, none⟩ = some a ∧ w.cell? ⟨g, 1, none⟩ = some b ∧ g < w.heap.size := ⟨h.cell 0, h.cell 1, h.lt⟩
theorem hidH {p : Prop} (h : p) : Hid p := h
theorem ret_int {k : IntKind} {a b : Int} (h : a = b) : Ending.returned (.int k a) = .returned (.int k b) := by rw [h]

def IsW (a : Int) : Prop := 0 ≤ a ∧ a ≤ 4294967295
instance (a : Int) : Decidable (IsW a) := by unfold IsW; infer_instance
def inB (v lo hi : Int) : Bool := decide (lo ≤ v) && decide (v ≤ hi)
def wB (a : Int) : Bool := inB a 0 4294967295
theorem inB_yes {v lo hi : Int} (h1 : lo ≤ v) (h2 : v ≤ hi) : inB v lo hi = true := by simp [inB, h1, h2]
theorem inB_lo {v lo hi : Int} (h1 : v < lo) : inB v lo hi = false := by
  have : ¬ lo ≤ v := by omega
  simp [inB, this]
theorem inB_hi {v lo hi : Int} (h1 : hi < v) : inB v lo hi = false := by
  have : ¬ v ≤ hi := by omega
  simp [inB, this]
theorem wB_yes {a : Int} (h : IsW a) : wB a = true := inB_yes h.1 h.2
theorem wB_no {a : Int} (h : ¬ IsW a) : wB a = false := by
  unfold IsW at h
  by_cases h1 : 0 ≤ a
  · exact inB_hi (by omega)
  · exact inB_lo (by omega)

def addC (a b : Int) : Int := if IsW a ∧ IsW b then 0 else 3
def addV (a b : Int) : Int := if IsW a ∧ IsW b then (a + b) % 4294967296 else 0
def gapV (a b : Int) : Int := if IsW a ∧ IsW b then (b - a) % 4294967296 else 0

set_option maxHeartbeats 400000 in
theorem in_any (v lo hi : Int) (w : World) : Calls Tryz.prog 52 #[.int .i64 v, .int .i64 lo, .int .i64 hi] w fun e w' => e = .returned (.bool (inB v lo hi)) ∧ w = w' := by
  by_cases h1 : lo ≤ v
  · rw [show inB v lo hi = decide (v ≤ hi) from by simp [inB, h1]]
    go_enter Tryz.func52, Tryz.ntmps52
    go_wp2
    go_ret
    exact ⟨rfl, rfl⟩
  · have h : v < lo := by omega
    rw [show inB v lo hi = false from inB_lo h]
    clear h1
    go_enter Tryz.func52, Tryz.ntmps52
    go_wp2
    go_ret
    exact ⟨rfl, rfl⟩
set_option maxHeartbeats 400000 in
theorem l1Add_any (a b : Int) (w : World) (h1 : 0 ≤ a) (h2 : a ≤ 4294967295) (h3 : 0 ≤ b) (h4 : b ≤ 4294967295) :
    Calls Tryz.prog 90 #[.int .i64 a, .int .i64 b] w fun e w' => e = .returned (.int .i64 ((a + b) % 4294967296)) ∧ w = w' := by
  go_enter Tryz.func90, Tryz.ntmps90
  go_wp2
  go_ret
  exact ⟨rfl, rfl⟩
end Go.Proofs.YtncnibkojneejaaGreatDoor

/- Slices of bytes: what the laws' helpers eqByteS, markByteS, heldByteS and toByteS do. -/
namespace Go.Proofs.YtncnibkojneejaaGreatDoor
open Go.RowKit Go.Deep

theorem infoU8 : (Tryz.prog.info? 5).map (fun i => (i.zero, i.size, i.bytes)) = some (some (.int .u8 0), 1, 1) := by kernel_rfl

/-- A slice value at A reads as the bytes l. -/
def Bs (w : World) (A : Option Addr) (l : List Int) : Prop :=
  l = [] ∨ ∃ b off, A = some ⟨b, off, none⟩ ∧ b < w.heap.size ∧ ∀ j, j < l.length → w.cell? ⟨b, off + j, none⟩ = some (.int .u8 (l.getD j 0))

theorem bs_below {w w' : World} {A : Option Addr} {l : List Int} (h : Bs w A l) (hb : Below w.heap.size w w') : Bs w' A l := by
  rcases h with h | ⟨b, off, h1, h2, h3⟩
  · exact .inl h
  · exact .inr ⟨b, off, h1, Nat.lt_of_lt_of_le h2 hb.size, fun j hj => (hb.cell (p := ⟨b, off + j, none⟩) h2).trans (h3 j hj)⟩

def Bytes (l : List Int) : Prop := ∀ x ∈ l, 0 ≤ x ∧ x ≤ 255
theorem Bytes.get {l : List Int} (h : Bytes l) (k : Nat) : 0 ≤ l.getD k 0 ∧ l.getD k 0 ≤ 255 := by
  rw [List.getD_eq_getElem?_getD]
  rcases Nat.lt_or_ge k l.length with hk | hk
  · rw [List.getElem?_eq_getElem hk]; exact h _ (List.getElem_mem hk)
  · rw [List.getElem?_eq_none hk]; simp
/-- What the law is told of a slice of bytes that came in, as the words here have it. -/
theorem row_bs {w : World} {a : Option Addr} {len cap : Nat} {zs : List Int}
    (h : (a = none ∧ len = 0 ∧ cap = 0 ∧ zs = []) ∨ ∃ x, a = some x ∧ len ≤ cap ∧ cap ≤ maxLen ∧ zs.length = cap ∧ (∀ i, i < zs.length → w.cell? (x.add i) = some (.int .u8 (zs.getD i 0))) ∧ ∀ n ∈ zs, (Lit.int .u8 n).wf = true) :
    ∃ l : List Int, l.length = len ∧ Bs w a l ∧ Bytes l ∧ len ≤ cap ∧ (cap : Int) ≤ 9223372036854775807 := by
  rcases h with ⟨rfl, rfl, rfl, rfl⟩ | ⟨x, rfl, hl, hm, hz, hcell, hwz⟩
  · exact ⟨[], rfl, .inl rfl, fun x hx => by simp at hx, Nat.le_refl _, by omega⟩
  · unfold maxLen at hm
    have hll : (zs.take len).length = len := by rw [List.length_take]; omega
    refine ⟨zs.take len, hll, ?_, fun x hx => ?_, hl, by omega⟩
    · rcases Nat.eq_zero_or_pos len with h0 | h0
      · subst h0; exact .inl rfl
      · obtain ⟨b, off, spot⟩ := x
        have hc := hcell 0 (by omega)
        have hspot : spot = none := by simpa [Addr.add] using World.cell?_spot hc
        subst hspot
        have hc0 : w.cell? ⟨b, off, none⟩ = some (.int .u8 (zs.getD 0 0)) := by simpa [Addr.add] using hc
        refine .inr ⟨b, off, rfl, World.block_lt_of_cell? _ _ hc0, fun j hj => ?_⟩
        have h1 := hcell j (by omega)
        have e : (zs.take len).getD j 0 = zs.getD j 0 := by
          rw [List.getD_eq_getElem?_getD, List.getD_eq_getElem?_getD, List.getElem?_take_of_lt (by omega)]
        rw [e, ← h1]
        rcases j with _ | j <;> simp [Addr.add]
    · have h1 := hwz x (List.mem_of_mem_take hx)
      simp [Lit.wf, IntKind.min, IntKind.max, IntKind.signed, IntKind.bits] at h1
      omega

/-- Of the blocks that were there only those from B on and below C may have turned; no mark has turned. -/
structure Win (B C : Nat) (w w' : World) : Prop where
  os : w'.os = w.os
  tape : w'.tape = w.tape
  output : w'.output = w.output
  size : w.heap.size ≤ w'.heap.size
  block : ∀ k, k < w.heap.size → (k < B ∨ C ≤ k) → w'.heap[k]? = w.heap[k]?
  frozen : ∀ a, a.block < w.heap.size → w'.frozen? a = w.frozen? a
theorem Win.refl (B C : Nat) (w : World) : Win B C w w := ⟨rfl, rfl, rfl, Nat.le_refl _, fun _ _ _ => rfl, fun _ _ => rfl⟩
theorem Win.cell {B C : Nat} {w w' : World} (h : Win B C w w') {p : Addr} (hp : p.block < w.heap.size) (hq : p.block < B ∨ C ≤ p.block) : w'.cell? p = w.cell? p :=
  World.cell?_of_block (w := w) (h.block p.block hp hq)
theorem Win.below {B C : Nat} {w w' : World} (h : Win B C w w') (hB : B ≤ w.heap.size) : Below B w w' :=
  ⟨h.os, h.tape, h.output, h.size, fun k hk => h.block k (by omega) (.inl hk)⟩
theorem bs_win {B C : Nat} {w w' : World} {A : Option Addr} {l : List Int} (h : Bs w A l) (hw : Win B C w w') (ho : ∀ b off, A = some ⟨b, off, none⟩ → b < B ∨ C ≤ b) : Bs w' A l := by
  rcases h with h | ⟨b, off, h1, h2, h3⟩
  · exact .inl h
  · exact .inr ⟨b, off, h1, Nat.lt_of_lt_of_le h2 hw.size, fun j hj => (hw.cell (p := ⟨b, off + j, none⟩) h2 (ho b off h1)).trans (h3 j hj)⟩

/-- A slice value at A reads as the bytes l, in a block from B on and below C, and may be written. -/
def Ob (B C : Nat) (w : World) (A : Option Addr) (l : List Int) : Prop :=
  l = [] ∨ ∃ b off, A = some ⟨b, off, none⟩ ∧ B ≤ b ∧ b < C ∧ C ≤ w.heap.size ∧ ∀ j, j < l.length → w.cell? ⟨b, off + j, none⟩ = some (.int .u8 (l.getD j 0)) ∧ w.frozen? ⟨b, off + j, none⟩ = false
theorem Ob.bs {B C : Nat} {w : World} {A : Option Addr} {l : List Int} (h : Ob B C w A l) : Bs w A l := by
  rcases h with h | ⟨b, off, h1, h2, h3, h4, h5⟩
  · exact .inl h
  · exact .inr ⟨b, off, h1, by omega, fun j hj => (h5 j hj).1⟩
theorem Ob.below {B C : Nat} {w w' : World} {A : Option Addr} {l : List Int} (h : Ob B C w A l) (hb : Below w.heap.size w w') : Ob B C w' A l := by
  rcases h with h | ⟨b, off, h1, h2, h3, h4, h5⟩
  · exact .inl h
  · exact .inr ⟨b, off, h1, h2, h3, Nat.le_trans h4 hb.size, fun j hj => ⟨(hb.cell (p := ⟨b, off + j, none⟩) (by show b < _; omega)).trans (h5 j hj).1, (hb.frozen (p := ⟨b, off + j, none⟩) (by show b < _; omega)).trans (h5 j hj).2⟩⟩

/-- The world behind j marks from k on. -/
def markW (w : World) (b off : Nat) (k : Nat) : Nat → World
  | 0 => w
  | j + 1 => (markW w b off k j).setCell ⟨b, off + j, none⟩ (.int .u8 (((k + j : Nat) : Int) % 256))
def marks (k n : Nat) : List Int := (List.range n).map fun i => ((k + i : Nat) : Int) % 256
theorem marks_len (k n : Nat) : (marks k n).length = n := by simp [marks]
theorem marks_at (k n i : Nat) (h : i < n) : (marks k n).getD i 0 = ((k + i : Nat) : Int) % 256 := by
  simp [marks, List.getD_eq_getElem?_getD, h]
theorem markW_size (w : World) (b off k j : Nat) : (markW w b off k j).heap.size = w.heap.size := by
  induction j with
  | zero => rfl
  | succ j ih => simp [markW, World.setCell, ih]
theorem markW_far (w : World) (b off k j : Nat) (i : Nat) (h : i ≠ b) : (markW w b off k j).heap[i]? = w.heap[i]? := by
  induction j with
  | zero => rfl
  | succ j ih => exact (Below.heap_setCell _ _ _ _ (by simpa using h)).trans ih
theorem markW_other (w : World) (b off k j : Nat) (q : Addr) (h : ∀ i, i < j → q ≠ ⟨b, off + i, none⟩) : (markW w b off k j).cell? q = w.cell? q := by
  induction j with
  | zero => rfl
  | succ j ih => exact (World.cell?_setCell_other _ _ _ _ (fun e => h j (by omega) e.symm)).trans (ih (fun i hi => h i (by omega)))
theorem markW_frozen (w : World) (b off k j : Nat) (q : Addr) : (markW w b off k j).frozen? q = w.frozen? q := by
  induction j with
  | zero => rfl
  | succ j ih => simp [markW, ih]
theorem markW_cell (w : World) (b off k j i : Nat) (h : i < j) (hc : ∀ i, i < j → ∃ v, w.cell? ⟨b, off + i, none⟩ = some v) :
    (markW w b off k j).cell? ⟨b, off + i, none⟩ = some (.int .u8 (((k + i : Nat) : Int) % 256)) := by
  induction j with
  | zero => omega
  | succ j ih =>
    by_cases e : i = j
    · subst e
      obtain ⟨v, hv⟩ := hc i h
      have hv' : (markW w b off k i).cell? ⟨b, off + i, none⟩ = some v := (markW_other w b off k i _ (fun t ht e => by injection e with _ e2; omega)).trans hv
      exact World.cell?_setCell_same _ _ _ hv'
    · exact (World.cell?_setCell_other _ _ _ _ (by intro e2; injection e2 with _ e3; omega)).trans (ih (by omega) (fun i hi => hc i (by omega)))

/-- The marks written over a slice that may be written. -/
theorem mark_win {B C : Nat} {w : World} {b off k : Nat} (hb : B ≤ b) (hc : b < C) (j : Nat) : Win B C w (markW w b off k j) :=
  ⟨by induction j with | zero => rfl | succ j ih => exact ih, by induction j with | zero => rfl | succ j ih => exact ih, by induction j with | zero => rfl | succ j ih => exact ih,
   by rw [markW_size]; exact Nat.le_refl _, fun i _ h => markW_far w b off k j i (by omega), fun a _ => markW_frozen w b off k j a⟩
theorem mark_bs {w : World} {b off k n : Nat} (hb : b < w.heap.size) (hc : ∀ i, i < n → ∃ v, w.cell? ⟨b, off + i, none⟩ = some v) : Bs (markW w b off k n) (some ⟨b, off, none⟩) (marks k n) :=
  .inr ⟨b, off, rfl, by rw [markW_size]; exact hb, fun j hj => by rw [marks_len] at hj; rw [markW_cell w b off k n j hj hc, marks_at k n j hj]⟩

theorem Win.of_below {B C : Nat} {w w' : World} (h : Below w.heap.size w w') : Win B C w w' :=
  ⟨h.os, h.tape, h.output, h.size, fun k hk _ => h.block k hk, fun _ ha => h.frozen ha⟩
theorem Win.trans {B C : Nat} {a b c : World} (h : Win B C a b) (k : Win B C b c) : Win B C a c :=
  ⟨k.os.trans h.os, k.tape.trans h.tape, k.output.trans h.output, Nat.le_trans h.size k.size, fun i hi ho => (k.block i (Nat.lt_of_lt_of_le hi h.size) ho).trans (h.block i hi ho),
   fun q ha => (k.frozen q (Nat.lt_of_lt_of_le ha h.size)).trans (h.frozen q ha)⟩
theorem Win.blk {B C : Nat} {w w' : World} {g : Nat} {t : TypeId} {cs : Array Value} (hw : Win B C w w') (h : Blk w g t cs) (ho : g < B ∨ C ≤ g) : Blk w' g t cs := (hw.block g h.lt ho).trans h
theorem Ob.far {B C : Nat} {w : World} {A : Option Addr} {l : List Int} (h : Ob B C w A l) : l = [] ∨ ∃ b off, A = some ⟨b, off, none⟩ ∧ B ≤ b ∧ b < C := by
  rcases h with h | ⟨b, off, h1, h2, h3, _⟩
  · exact .inl h
  · exact .inr ⟨b, off, h1, h2, h3⟩
/-- What lies in one window is kept by a write into another. -/
theorem Ob.win {B C B' C' : Nat} {w w' : World} {A : Option Addr} {l : List Int} (h : Ob B C w A l) (hw : Win B' C' w w') (ho : C ≤ B' ∨ C' ≤ B) : Ob B C w' A l := by
  rcases h with h | ⟨b, off, h1, h2, h3, h4, h5⟩
  · exact .inl h
  · exact .inr ⟨b, off, h1, h2, h3, Nat.le_trans h4 hw.size, fun j hj => ⟨(hw.cell (p := ⟨b, off + j, none⟩) (by show b < _; omega) (by show b < _ ∨ _ ≤ b; omega)).trans (h5 j hj).1, (hw.frozen ⟨b, off + j, none⟩ (by show b < _; omega)).trans (h5 j hj).2⟩⟩
end Go.Proofs.YtncnibkojneejaaGreatDoor

/- Slices of numbers: what the laws' helpers eqInt64S, markInt64S, heldInt64S and toInt64S do. -/
namespace Go.Proofs.YtncnibkojneejaaGreatDoor
open Go.RowKit Go.Deep

theorem infoI64 : (Tryz.prog.info? 2).map (fun i => (i.zero, i.size, i.bytes)) = some (some (.int .i64 0), 1, 8) := by kernel_rfl

/-- A slice value at A reads as the numbers l. -/
def Is (w : World) (A : Option Addr) (l : List Int) : Prop :=
  l = [] ∨ ∃ b off, A = some ⟨b, off, none⟩ ∧ b < w.heap.size ∧ ∀ j, j < l.length → w.cell? ⟨b, off + j, none⟩ = some (.int .i64 (l.getD j 0))

theorem is_below {w w' : World} {A : Option Addr} {l : List Int} (h : Is w A l) (hb : Below w.heap.size w w') : Is w' A l := by
  rcases h with h | ⟨b, off, h1, h2, h3⟩
  · exact .inl h
  · exact .inr ⟨b, off, h1, Nat.lt_of_lt_of_le h2 hb.size, fun j hj => (hb.cell (p := ⟨b, off + j, none⟩) h2).trans (h3 j hj)⟩

def Ints (l : List Int) : Prop := ∀ x ∈ l, -9223372036854775808 ≤ x ∧ x ≤ 9223372036854775807
/-- What the law is told of a slice of numbers that came in, as the words here have it. -/
theorem row_is {w : World} {a : Option Addr} {len cap : Nat} {zs : List Int}
    (h : (a = none ∧ len = 0 ∧ cap = 0 ∧ zs = []) ∨ ∃ x, a = some x ∧ len ≤ cap ∧ cap ≤ maxLen ∧ zs.length = cap ∧ (∀ i, i < zs.length → w.cell? (x.add i) = some (.int .i64 (zs.getD i 0))) ∧ ∀ n ∈ zs, (Lit.int .i64 n).wf = true) :
    ∃ l : List Int, l.length = len ∧ Is w a l ∧ Ints l ∧ len ≤ cap ∧ (cap : Int) ≤ 9223372036854775807 := by
  rcases h with ⟨rfl, rfl, rfl, rfl⟩ | ⟨x, rfl, hl, hm, hz, hcell, hwz⟩
  · exact ⟨[], rfl, .inl rfl, fun x hx => by simp at hx, Nat.le_refl _, by omega⟩
  · unfold maxLen at hm
    have hll : (zs.take len).length = len := by rw [List.length_take]; omega
    refine ⟨zs.take len, hll, ?_, fun x hx => ?_, hl, by omega⟩
    · rcases Nat.eq_zero_or_pos len with h0 | h0
      · subst h0; exact .inl rfl
      · obtain ⟨b, off, spot⟩ := x
        have hc := hcell 0 (by omega)
        have hspot : spot = none := by simpa [Addr.add] using World.cell?_spot hc
        subst hspot
        have hc0 : w.cell? ⟨b, off, none⟩ = some (.int .i64 (zs.getD 0 0)) := by simpa [Addr.add] using hc
        refine .inr ⟨b, off, rfl, World.block_lt_of_cell? _ _ hc0, fun j hj => ?_⟩
        have h1 := hcell j (by omega)
        have e : (zs.take len).getD j 0 = zs.getD j 0 := by
          rw [List.getD_eq_getElem?_getD, List.getD_eq_getElem?_getD, List.getElem?_take_of_lt (by omega)]
        rw [e, ← h1]
        rcases j with _ | j <;> simp [Addr.add]
    · have h1 := hwz x (List.mem_of_mem_take hx)
      simp [Lit.wf, IntKind.min, IntKind.max, IntKind.signed, IntKind.bits] at h1
      omega

theorem is_win {B C : Nat} {w w' : World} {A : Option Addr} {l : List Int} (h : Is w A l) (hw : Win B C w w') (ho : ∀ b off, A = some ⟨b, off, none⟩ → b < B ∨ C ≤ b) : Is w' A l := by
  rcases h with h | ⟨b, off, h1, h2, h3⟩
  · exact .inl h
  · exact .inr ⟨b, off, h1, Nat.lt_of_lt_of_le h2 hw.size, fun j hj => (hw.cell (p := ⟨b, off + j, none⟩) h2 (ho b off h1)).trans (h3 j hj)⟩

/-- A slice value at A reads as the numbers l, in a block from B on and below C, and may be written. -/
def Oi (B C : Nat) (w : World) (A : Option Addr) (l : List Int) : Prop :=
  l = [] ∨ ∃ b off, A = some ⟨b, off, none⟩ ∧ B ≤ b ∧ b < C ∧ C ≤ w.heap.size ∧ ∀ j, j < l.length → w.cell? ⟨b, off + j, none⟩ = some (.int .i64 (l.getD j 0)) ∧ w.frozen? ⟨b, off + j, none⟩ = false
theorem Oi.is {B C : Nat} {w : World} {A : Option Addr} {l : List Int} (h : Oi B C w A l) : Is w A l := by
  rcases h with h | ⟨b, off, h1, h2, h3, h4, h5⟩
  · exact .inl h
  · exact .inr ⟨b, off, h1, by omega, fun j hj => (h5 j hj).1⟩
theorem Oi.below {B C : Nat} {w w' : World} {A : Option Addr} {l : List Int} (h : Oi B C w A l) (hb : Below w.heap.size w w') : Oi B C w' A l := by
  rcases h with h | ⟨b, off, h1, h2, h3, h4, h5⟩
  · exact .inl h
  · exact .inr ⟨b, off, h1, h2, h3, Nat.le_trans h4 hb.size, fun j hj => ⟨(hb.cell (p := ⟨b, off + j, none⟩) (by show b < _; omega)).trans (h5 j hj).1, (hb.frozen (p := ⟨b, off + j, none⟩) (by show b < _; omega)).trans (h5 j hj).2⟩⟩

/-- The world behind j nums from k on. -/
def markV (w : World) (b off : Nat) (k : Nat) : Nat → World
  | 0 => w
  | j + 1 => (markV w b off k j).setCell ⟨b, off + j, none⟩ (.int .i64 ((k + j : Nat) : Int))
def nums (k n : Nat) : List Int := (List.range n).map fun i => ((k + i : Nat) : Int)
theorem nums_len (k n : Nat) : (nums k n).length = n := by simp [nums]
theorem nums_at (k n i : Nat) (h : i < n) : (nums k n).getD i 0 = ((k + i : Nat) : Int) := by
  simp [nums, List.getD_eq_getElem?_getD, h]
theorem markV_size (w : World) (b off k j : Nat) : (markV w b off k j).heap.size = w.heap.size := by
  induction j with
  | zero => rfl
  | succ j ih => simp [markV, World.setCell, ih]
theorem markV_far (w : World) (b off k j : Nat) (i : Nat) (h : i ≠ b) : (markV w b off k j).heap[i]? = w.heap[i]? := by
  induction j with
  | zero => rfl
  | succ j ih => exact (Below.heap_setCell _ _ _ _ (by simpa using h)).trans ih
theorem markV_other (w : World) (b off k j : Nat) (q : Addr) (h : ∀ i, i < j → q ≠ ⟨b, off + i, none⟩) : (markV w b off k j).cell? q = w.cell? q := by
  induction j with
  | zero => rfl
  | succ j ih => exact (World.cell?_setCell_other _ _ _ _ (fun e => h j (by omega) e.symm)).trans (ih (fun i hi => h i (by omega)))
theorem markV_frozen (w : World) (b off k j : Nat) (q : Addr) : (markV w b off k j).frozen? q = w.frozen? q := by
  induction j with
  | zero => rfl
  | succ j ih => simp [markV, ih]
theorem markV_cell (w : World) (b off k j i : Nat) (h : i < j) (hc : ∀ i, i < j → ∃ v, w.cell? ⟨b, off + i, none⟩ = some v) :
    (markV w b off k j).cell? ⟨b, off + i, none⟩ = some (.int .i64 ((k + i : Nat) : Int)) := by
  induction j with
  | zero => omega
  | succ j ih =>
    by_cases e : i = j
    · subst e
      obtain ⟨v, hv⟩ := hc i h
      have hv' : (markV w b off k i).cell? ⟨b, off + i, none⟩ = some v := (markV_other w b off k i _ (fun t ht e => by injection e with _ e2; omega)).trans hv
      exact World.cell?_setCell_same _ _ _ hv'
    · exact (World.cell?_setCell_other _ _ _ _ (by intro e2; injection e2 with _ e3; omega)).trans (ih (by omega) (fun i hi => hc i (by omega)))

/-- The nums written over a slice that may be written. -/
theorem mark_iwin {B C : Nat} {w : World} {b off k : Nat} (hb : B ≤ b) (hc : b < C) (j : Nat) : Win B C w (markV w b off k j) :=
  ⟨by induction j with | zero => rfl | succ j ih => exact ih, by induction j with | zero => rfl | succ j ih => exact ih, by induction j with | zero => rfl | succ j ih => exact ih,
   by rw [markV_size]; exact Nat.le_refl _, fun i _ h => markV_far w b off k j i (by omega), fun a _ => markV_frozen w b off k j a⟩
theorem mark_is {w : World} {b off k n : Nat} (hb : b < w.heap.size) (hc : ∀ i, i < n → ∃ v, w.cell? ⟨b, off + i, none⟩ = some v) : Is (markV w b off k n) (some ⟨b, off, none⟩) (nums k n) :=
  .inr ⟨b, off, rfl, by rw [markV_size]; exact hb, fun j hj => by rw [nums_len] at hj; rw [markV_cell w b off k n j hj hc, nums_at k n j hj]⟩

theorem Oi.far {B C : Nat} {w : World} {A : Option Addr} {l : List Int} (h : Oi B C w A l) : l = [] ∨ ∃ b off, A = some ⟨b, off, none⟩ ∧ B ≤ b ∧ b < C := by
  rcases h with h | ⟨b, off, h1, h2, h3, _⟩
  · exact .inl h
  · exact .inr ⟨b, off, h1, h2, h3⟩
/-- What lies in one window is kept by a write into another. -/
theorem Oi.win {B C B' C' : Nat} {w w' : World} {A : Option Addr} {l : List Int} (h : Oi B C w A l) (hw : Win B' C' w w') (ho : C ≤ B' ∨ C' ≤ B) : Oi B C w' A l := by
  rcases h with h | ⟨b, off, h1, h2, h3, h4, h5⟩
  · exact .inl h
  · exact .inr ⟨b, off, h1, h2, h3, Nat.le_trans h4 hw.size, fun j hj => ⟨(hw.cell (p := ⟨b, off + j, none⟩) (by show b < _; omega) (by show b < _ ∨ _ ≤ b; omega)).trans (h5 j hj).1, (hw.frozen ⟨b, off + j, none⟩ (by show b < _; omega)).trans (h5 j hj).2⟩⟩
end Go.Proofs.YtncnibkojneejaaGreatDoor

/- Values of any type as trees: 'reads as' (Rd), 'is owned' (Ow), 'is marked' (mkv, mkc), one notion for every struct and every slice. -/
namespace Go.Proofs.YtncnibkojneejaaGreatDoor
open Go.RowKit Go.Deep

/-- A value of one cell: a number, a bool, a slice of bytes, a slice of int64s, a slice of n structs (their cells in a row). -/
inductive V where
  | int (n : Int)
  | bool (b : Bool)
  | bs (l : List Int)
  | is (l : List Int)
  | st (n : Nat) (xs : List V)
abbrev Fp := Nat → Nat → Prop
def Caps (n c : Nat) : Prop := n ≤ c ∧ (c : Int) ≤ 9223372036854775807
theorem Caps.len {n c : Nat} (h : Caps n c) : (n : Int) ≤ 9223372036854775807 := by have := h.1; have := h.2; omega
theorem Caps.same {n : Nat} (h : (n : Int) ≤ 9223372036854775807) : Caps n n := ⟨Nat.le_refl _, h⟩
mutual
/-- The value v reads as x. -/
def Rd (w : World) : V → Value → Prop
  | .int n, v => v = .int .i64 n
  | .bool b, v => v = .bool b
  | .bs l, v => ∃ A c, v = .slice A l.length c ∧ Caps l.length c ∧ Bs w A l
  | .is l, v => ∃ A c, v = .slice A l.length c ∧ Caps l.length c ∧ Is w A l
  | .st n xs, v => ∃ A c, v = .slice A n c ∧ Caps n c ∧ ((n = 0 ∧ xs = []) ∨ ∃ g o, A = some ⟨g, o, none⟩ ∧ g < w.heap.size ∧ RdL w xs g o)
/-- The cells from o on read as xs. -/
def RdL (w : World) : List V → Nat → Nat → Prop
  | [], _, _ => True
  | x :: xs, g, o => (∃ u, w.cell? ⟨g, o, none⟩ = some u ∧ Rd w x u) ∧ RdL w xs g (o + 1)
end
/-- A struct's fields by value. -/
def RdA (w : World) : List V → List Value → Prop
  | [], [] => True
  | x :: xs, v :: vs => Rd w x v ∧ RdA w xs vs
  | _, _ => False
mutual
theorem Rd.below {w w' : World} (hb : Below w.heap.size w w') : ∀ (x : V) {v : Value}, Rd w x v → Rd w' x v
  | .int _, _, h => by unfold Rd at h ⊢; exact h
  | .bool _, _, h => by unfold Rd at h ⊢; exact h
  | .bs l, _, h => by
    unfold Rd at h ⊢
    obtain ⟨A, c, h1, h2, h3⟩ := h
    exact ⟨A, c, h1, h2, bs_below h3 hb⟩
  | .is l, _, h => by
    unfold Rd at h ⊢
    obtain ⟨A, c, h1, h2, h3⟩ := h
    exact ⟨A, c, h1, h2, is_below h3 hb⟩
  | .st n xs, _, h => by
    unfold Rd at h ⊢
    obtain ⟨A, c, h1, h2, h3⟩ := h
    refine ⟨A, c, h1, h2, ?_⟩
    rcases h3 with h3 | ⟨g, o, h4, h5, h6⟩
    · exact .inl h3
    · exact .inr ⟨g, o, h4, Nat.lt_of_lt_of_le h5 hb.size, RdL.below hb xs h5 h6⟩
theorem RdL.below {w w' : World} (hb : Below w.heap.size w w') : ∀ (xs : List V) {g o : Nat}, g < w.heap.size → RdL w xs g o → RdL w' xs g o
  | [], _, _, _, _ => by unfold RdL; trivial
  | x :: xs, g, o, hg, h => by
    unfold RdL at h ⊢
    obtain ⟨⟨u, h1, h2⟩, h3⟩ := h
    exact ⟨⟨u, (hb.cell (p := ⟨g, o, none⟩) hg).trans h1, Rd.below hb x h2⟩, RdL.below hb xs hg h3⟩
end
theorem RdA.below {w w' : World} (hb : Below w.heap.size w w') : ∀ {xs : List V} {vs : List Value}, RdA w xs vs → RdA w' xs vs
  | [], [], _ => by unfold RdA; trivial
  | x :: xs, v :: vs, h => by
    unfold RdA at h ⊢
    exact ⟨Rd.below hb x h.1, RdA.below hb h.2⟩
  | [], _ :: _, h => by unfold RdA at h; exact h.elim
  | _ :: _, [], h => by unfold RdA at h; exact h.elim

def Sub (S T : Fp) : Prop := ∀ g o, S g o → T g o
def Apart (S T : Fp) : Prop := ∀ g o, S g o → T g o → False
theorem Sub.refl (S : Fp) : Sub S S := fun _ _ h => h
theorem Sub.trans {S T U : Fp} (h : Sub S T) (k : Sub T U) : Sub S U := fun g o x => k g o (h g o x)
theorem Apart.symm {S T : Fp} (h : Apart S T) : Apart T S := fun g o x y => h g o y x
theorem Apart.sub {S T S' T' : Fp} (h : Apart S T) (hs : Sub S' S) (ht : Sub T' T) : Apart S' T' := fun g o x y => h g o (hs g o x) (ht g o y)
def Cup (S T : Fp) : Fp := fun g o => S g o ∨ T g o
theorem Sub.cupL (S T : Fp) : Sub S (Cup S T) := fun _ _ h => .inl h
theorem Sub.cupR (S T : Fp) : Sub T (Cup S T) := fun _ _ h => .inr h
def One (g o : Nat) : Fp := fun a b => a = g ∧ b = o

mutual
/-- The value v reads as x; all its cells lie in S, each once, and may be written. -/
def Ow (w : World) : V → Fp → Value → Prop
  | .int n, _, v => v = .int .i64 n
  | .bool b, _, v => v = .bool b
  | .bs l, S, v => ∃ A c, v = .slice A l.length c ∧ Caps l.length c ∧ (l = [] ∨ ∃ g o, A = some ⟨g, o, none⟩ ∧ g < w.heap.size ∧ ∀ j, j < l.length → S g (o + j) ∧ w.cell? ⟨g, o + j, none⟩ = some (.int .u8 (l.getD j 0)) ∧ w.frozen? ⟨g, o + j, none⟩ = false)
  | .is l, S, v => ∃ A c, v = .slice A l.length c ∧ Caps l.length c ∧ (l = [] ∨ ∃ g o, A = some ⟨g, o, none⟩ ∧ g < w.heap.size ∧ ∀ j, j < l.length → S g (o + j) ∧ w.cell? ⟨g, o + j, none⟩ = some (.int .i64 (l.getD j 0)) ∧ w.frozen? ⟨g, o + j, none⟩ = false)
  | .st n xs, S, v => ∃ A c, v = .slice A n c ∧ Caps n c ∧ ((n = 0 ∧ xs = []) ∨ ∃ g o, A = some ⟨g, o, none⟩ ∧ g < w.heap.size ∧ OwL w xs S g o)
def OwL (w : World) : List V → Fp → Nat → Nat → Prop
  | [], _, _, _ => True
  | x :: xs, S, g, o => ∃ (u : Value) (S1 S2 : Fp), w.cell? ⟨g, o, none⟩ = some u ∧ w.frozen? ⟨g, o, none⟩ = false ∧ S g o ∧ Ow w x S1 u ∧ OwL w xs S2 g (o + 1) ∧ Sub S1 S ∧ Sub S2 S ∧ ¬ S1 g o ∧ ¬ S2 g o ∧ Apart S1 S2
end
def OwA (w : World) : List V → Fp → List Value → Prop
  | [], _, [] => True
  | x :: xs, S, v :: vs => ∃ S1 S2 : Fp, Ow w x S1 v ∧ OwA w xs S2 vs ∧ Sub S1 S ∧ Sub S2 S ∧ Apart S1 S2
  | _, _, _ => False

mutual
theorem Ow.rd {w : World} : ∀ (x : V) {S : Fp} {v : Value}, Ow w x S v → Rd w x v
  | .int _, _, _, h => by unfold Ow at h; unfold Rd; exact h
  | .bool _, _, _, h => by unfold Ow at h; unfold Rd; exact h
  | .bs l, S, _, h => by
    unfold Ow at h; unfold Rd
    obtain ⟨A, c, h1, h2, h3⟩ := h
    refine ⟨A, c, h1, h2, ?_⟩
    rcases h3 with h3 | ⟨g, o, h4, h5, h6⟩
    · exact .inl h3
    · exact .inr ⟨g, o, h4, h5, fun j hj => (h6 j hj).2.1⟩
  | .is l, S, _, h => by
    unfold Ow at h; unfold Rd
    obtain ⟨A, c, h1, h2, h3⟩ := h
    refine ⟨A, c, h1, h2, ?_⟩
    rcases h3 with h3 | ⟨g, o, h4, h5, h6⟩
    · exact .inl h3
    · exact .inr ⟨g, o, h4, h5, fun j hj => (h6 j hj).2.1⟩
  | .st n xs, S, _, h => by
    unfold Ow at h; unfold Rd
    obtain ⟨A, c, h1, h2, h3⟩ := h
    refine ⟨A, c, h1, h2, ?_⟩
    rcases h3 with h3 | ⟨g, o, h4, h5, h6⟩
    · exact .inl h3
    · exact .inr ⟨g, o, h4, h5, OwL.rd xs h6⟩
theorem OwL.rd {w : World} : ∀ (xs : List V) {S : Fp} {g o : Nat}, OwL w xs S g o → RdL w xs g o
  | [], _, _, _, _ => by unfold RdL; trivial
  | x :: xs, S, g, o, h => by
    unfold OwL at h; unfold RdL
    obtain ⟨u, S1, S2, h1, _, _, h2, h3, _⟩ := h
    exact ⟨⟨u, h1, Ow.rd x h2⟩, OwL.rd xs h3⟩
end
theorem OwA.rd {w : World} : ∀ {xs : List V} {S : Fp} {vs : List Value}, OwA w xs S vs → RdA w xs vs
  | [], _, [], _ => by unfold RdA; trivial
  | x :: xs, S, v :: vs, h => by
    unfold OwA at h; unfold RdA
    obtain ⟨S1, S2, h1, h2, _⟩ := h
    exact ⟨Ow.rd x h1, OwA.rd h2⟩
  | [], _, _ :: _, h => by unfold OwA at h; exact h.elim
  | _ :: _, _, [], h => by unfold OwA at h; exact h.elim

/-- What was there and lies in S is kept. -/
structure Kept (S : Fp) (w w' : World) : Prop where
  size : w.heap.size ≤ w'.heap.size
  cell : ∀ g o, g < w.heap.size → S g o → w'.cell? ⟨g, o, none⟩ = w.cell? ⟨g, o, none⟩
  frozen : ∀ g o, g < w.heap.size → S g o → w'.frozen? ⟨g, o, none⟩ = w.frozen? ⟨g, o, none⟩
theorem Kept.sub {S T : Fp} {w w' : World} (h : Kept T w w') (hs : Sub S T) : Kept S w w' := ⟨h.size, fun g o hg x => h.cell g o hg (hs g o x), fun g o hg x => h.frozen g o hg (hs g o x)⟩
theorem Kept.of_below {S : Fp} {w w' : World} (hb : Below w.heap.size w w') : Kept S w w' := ⟨hb.size, fun g o hg _ => hb.cell (p := ⟨g, o, none⟩) hg, fun g o hg _ => hb.frozen (p := ⟨g, o, none⟩) hg⟩
theorem Kept.of_win {S : Fp} {B C : Nat} {w w' : World} (h : Win B C w w') (hs : ∀ g o, S g o → g < B ∨ C ≤ g) : Kept S w w' := ⟨h.size, fun g o hg x => h.cell (p := ⟨g, o, none⟩) hg (hs g o x), fun g o hg _ => h.frozen ⟨g, o, none⟩ hg⟩
mutual
theorem Ow.kept {w w' : World} : ∀ (x : V) {S : Fp} {v : Value}, Kept S w w' → Ow w x S v → Ow w' x S v
  | .int _, _, _, _, h => by unfold Ow at h ⊢; exact h
  | .bool _, _, _, _, h => by unfold Ow at h ⊢; exact h
  | .bs l, S, _, k, h => by
    unfold Ow at h ⊢
    obtain ⟨A, c, h1, h2, h3⟩ := h
    refine ⟨A, c, h1, h2, ?_⟩
    rcases h3 with h3 | ⟨g, o, h4, h5, h6⟩
    · exact .inl h3
    · exact .inr ⟨g, o, h4, Nat.lt_of_lt_of_le h5 k.size, fun j hj => ⟨(h6 j hj).1, (k.cell g _ h5 (h6 j hj).1).trans (h6 j hj).2.1, (k.frozen g _ h5 (h6 j hj).1).trans (h6 j hj).2.2⟩⟩
  | .is l, S, _, k, h => by
    unfold Ow at h ⊢
    obtain ⟨A, c, h1, h2, h3⟩ := h
    refine ⟨A, c, h1, h2, ?_⟩
    rcases h3 with h3 | ⟨g, o, h4, h5, h6⟩
    · exact .inl h3
    · exact .inr ⟨g, o, h4, Nat.lt_of_lt_of_le h5 k.size, fun j hj => ⟨(h6 j hj).1, (k.cell g _ h5 (h6 j hj).1).trans (h6 j hj).2.1, (k.frozen g _ h5 (h6 j hj).1).trans (h6 j hj).2.2⟩⟩
  | .st n xs, S, _, k, h => by
    unfold Ow at h ⊢
    obtain ⟨A, c, h1, h2, h3⟩ := h
    refine ⟨A, c, h1, h2, ?_⟩
    rcases h3 with h3 | ⟨g, o, h4, h5, h6⟩
    · exact .inl h3
    · exact .inr ⟨g, o, h4, Nat.lt_of_lt_of_le h5 k.size, OwL.kept xs k h5 h6⟩
theorem OwL.kept {w w' : World} : ∀ (xs : List V) {S : Fp} {g o : Nat}, Kept S w w' → g < w.heap.size → OwL w xs S g o → OwL w' xs S g o
  | [], _, _, _, _, _, _ => by unfold OwL; trivial
  | x :: xs, S, g, o, k, hg, h => by
    unfold OwL at h ⊢
    obtain ⟨u, S1, S2, h1, h2, h3, h4, h5, h6, h7, h8⟩ := h
    exact ⟨u, S1, S2, (k.cell g o hg h3).trans h1, (k.frozen g o hg h3).trans h2, h3, Ow.kept x (k.sub h6) h4, OwL.kept xs (k.sub h7) hg h5, h6, h7, h8⟩
end
theorem OwA.kept {w w' : World} : ∀ {xs : List V} {S : Fp} {vs : List Value}, Kept S w w' → OwA w xs S vs → OwA w' xs S vs
  | [], _, [], _, _ => by unfold OwA; trivial
  | x :: xs, S, v :: vs, k, h => by
    unfold OwA at h ⊢
    obtain ⟨S1, S2, h1, h2, h3, h4, h5⟩ := h
    exact ⟨S1, S2, Ow.kept x (k.sub h3) h1, OwA.kept (k.sub h4) h2, h3, h4, h5⟩
  | [], _, _ :: _, _, h => by unfold OwA at h; exact h.elim
  | _ :: _, _, [], _, h => by unfold OwA at h; exact h.elim
mutual
theorem Ow.sub {w : World} : ∀ (x : V) {S T : Fp} {v : Value}, Sub S T → Ow w x S v → Ow w x T v
  | .int _, _, _, _, _, h => by unfold Ow at h ⊢; exact h
  | .bool _, _, _, _, _, h => by unfold Ow at h ⊢; exact h
  | .bs l, S, T, _, k, h => by
    unfold Ow at h ⊢
    obtain ⟨A, c, h1, h2, h3⟩ := h
    refine ⟨A, c, h1, h2, ?_⟩
    rcases h3 with h3 | ⟨g, o, h4, h5, h6⟩
    · exact .inl h3
    · exact .inr ⟨g, o, h4, h5, fun j hj => ⟨k _ _ (h6 j hj).1, (h6 j hj).2⟩⟩
  | .is l, S, T, _, k, h => by
    unfold Ow at h ⊢
    obtain ⟨A, c, h1, h2, h3⟩ := h
    refine ⟨A, c, h1, h2, ?_⟩
    rcases h3 with h3 | ⟨g, o, h4, h5, h6⟩
    · exact .inl h3
    · exact .inr ⟨g, o, h4, h5, fun j hj => ⟨k _ _ (h6 j hj).1, (h6 j hj).2⟩⟩
  | .st n xs, S, T, _, k, h => by
    unfold Ow at h ⊢
    obtain ⟨A, c, h1, h2, h3⟩ := h
    refine ⟨A, c, h1, h2, ?_⟩
    rcases h3 with h3 | ⟨g, o, h4, h5, h6⟩
    · exact .inl h3
    · exact .inr ⟨g, o, h4, h5, OwL.sub xs k h6⟩
theorem OwL.sub {w : World} : ∀ (xs : List V) {S T : Fp} {g o : Nat}, Sub S T → OwL w xs S g o → OwL w xs T g o
  | [], _, _, _, _, _, _ => by unfold OwL; trivial
  | x :: xs, S, T, g, o, k, h => by
    unfold OwL at h ⊢
    obtain ⟨u, S1, S2, h1, h2, h3, h4, h5, h6, h7, h8⟩ := h
    exact ⟨u, S1, S2, h1, h2, k _ _ h3, h4, h5, h6.trans k, h7.trans k, h8⟩
end
theorem OwA.sub {w : World} : ∀ {xs : List V} {S T : Fp} {vs : List Value}, Sub S T → OwA w xs S vs → OwA w xs T vs
  | [], _, _, [], _, _ => by unfold OwA; trivial
  | x :: xs, S, T, v :: vs, k, h => by
    unfold OwA at h ⊢
    obtain ⟨S1, S2, h1, h2, h3, h4, h5⟩ := h
    exact ⟨S1, S2, h1, h2, h3.trans k, h4.trans k, h5⟩
  | [], _, _, _ :: _, _, h => by unfold OwA at h; exact h.elim
  | _ :: _, _, _, [], _, h => by unfold OwA at h; exact h.elim

/-- Of what was there only what lies in S may have turned; no mark has. -/
structure Chg (S : Fp) (w w' : World) : Prop where
  os : w'.os = w.os
  tape : w'.tape = w.tape
  output : w'.output = w.output
  size : w.heap.size ≤ w'.heap.size
  cell : ∀ g o, g < w.heap.size → ¬ S g o → w'.cell? ⟨g, o, none⟩ = w.cell? ⟨g, o, none⟩
  frozen : ∀ a, a.block < w.heap.size → w'.frozen? a = w.frozen? a
  block : ∀ g, g < w.heap.size → (∀ o, ¬ S g o) → w'.heap[g]? = w.heap[g]?
theorem Chg.refl (S : Fp) (w : World) : Chg S w w := ⟨rfl, rfl, rfl, Nat.le_refl _, fun _ _ _ _ => rfl, fun _ _ => rfl, fun _ _ _ => rfl⟩
theorem Chg.sub {S T : Fp} {w w' : World} (h : Chg S w w') (hs : Sub S T) : Chg T w w' := ⟨h.os, h.tape, h.output, h.size, fun g o hg n => h.cell g o hg (fun x => n (hs g o x)), h.frozen, fun g hg n => h.block g hg (fun o x => n o (hs g o x))⟩
theorem Chg.trans {S : Fp} {a b c : World} (h : Chg S a b) (k : Chg S b c) : Chg S a c :=
  ⟨k.os.trans h.os, k.tape.trans h.tape, k.output.trans h.output, Nat.le_trans h.size k.size, fun g o hg n => (k.cell g o (Nat.lt_of_lt_of_le hg h.size) n).trans (h.cell g o hg n),
   fun x hx => (k.frozen x (Nat.lt_of_lt_of_le hx h.size)).trans (h.frozen x hx), fun g hg n => (k.block g (Nat.lt_of_lt_of_le hg h.size) n).trans (h.block g hg n)⟩
theorem Chg.of_below {S : Fp} {w w' : World} (hb : Below w.heap.size w w') : Chg S w w' := ⟨hb.os, hb.tape, hb.output, hb.size, fun g o hg _ => hb.cell (p := ⟨g, o, none⟩) hg, fun _ ha => hb.frozen ha, fun g hg _ => hb.block g hg⟩
theorem Chg.set (w : World) (g o : Nat) (u : Value) : Chg (One g o) w (w.setCell ⟨g, o, none⟩ u) :=
  ⟨rfl, rfl, rfl, by simp [World.setCell], fun a b _ n => World.cell?_setCell_other _ _ _ _ (fun e => by injection e with e1 e2; exact n ⟨e1.symm, e2.symm⟩), fun _ _ => World.frozen?_setCell _ _ _ _,
   fun a _ n => Below.heap_setCell _ _ _ _ (by show a ≠ g; intro e; exact n o ⟨e, rfl⟩)⟩
theorem Chg.kept {S T : Fp} {w w' : World} (h : Chg S w w') (hs : Apart T S) : Kept T w w' := ⟨h.size, fun g o hg x => h.cell g o hg (fun y => hs g o x y), fun g o hg _ => h.frozen ⟨g, o, none⟩ hg⟩
def In (B C : Nat) (S : Fp) : Prop := ∀ g o, S g o → B ≤ g ∧ g < C
theorem Chg.win {S : Fp} {B C : Nat} {w w' : World} (h : Chg S w w') (hs : In B C S) : Win B C w w' :=
  ⟨h.os, h.tape, h.output, h.size, fun k hk ho => h.block k hk (fun o x => by have := hs k o x; omega), h.frozen⟩
theorem Chg.below {S : Fp} {B C : Nat} {w w' : World} (h : Chg S w w') (hs : In B C S) (hB : B ≤ w.heap.size) : Below B w w' := (h.win hs).below hB

/-- How many numbers a mark takes: of a cell, of a field. -/
def cc : V → Nat
  | .int _ => 1
  | .bool _ => 1
  | .bs l => l.length
  | .is l => l.length
  | .st _ xs => ccL xs
where ccL : List V → Nat
  | [] => 0
  | x :: xs => cc x + ccL xs
def vc : V → Nat
  | .int _ => 0
  | .bool _ => 0
  | x => cc x
def vcA : List V → Nat
  | [] => 0
  | x :: xs => vc x + vcA xs
/-- What is read behind the mark: of a cell, of a field. -/
def mkc (k : Nat) : V → V
  | .int _ => .int (k : Int)
  | .bool _ => .bool (decide ((k : Int) % 3 = 0))
  | .bs l => .bs (marks k l.length)
  | .is l => .is (nums k l.length)
  | .st n xs => .st n (mkL k xs)
where mkL (k : Nat) : List V → List V
  | [] => []
  | x :: xs => mkc k x :: mkL (k + cc x) xs
def mkv (k : Nat) : V → V
  | .int n => .int n
  | .bool b => .bool b
  | x => mkc k x
def mkA (k : Nat) : List V → List V
  | [] => []
  | x :: xs => mkv k x :: mkA (k + vc x) xs
end Go.Proofs.YtncnibkojneejaaGreatDoor

/- What PackWord and WordAt answer, the program's and the model's. -/
namespace Go.Proofs.YtncnibkojneejaaGreatDoor
open Go.RowKit Go.Deep

/-- The four bytes of a word, the most significant first. -/
def pk (x : Int) : List Int := [x / 16777216, x / 65536 % 256, x / 256 % 256, x % 256]
def packC (x : Int) : Int := if IsW x then 0 else 3
def packL (x : Int) : List Int := if IsW x then pk x else []
/-- What a call that answers a BytesResult leaves: the answer in memory that was not there before. -/
def BRes (w : World) (c : Int) (l : List Int) (e : Ending) (w' : World) : Prop :=
  ∃ A cp, e = .returned (.agg #[.int .i64 c, .slice A l.length cp]) ∧ Ob w.heap.size w'.heap.size w' A l ∧ Below w.heap.size w w' ∧ l.length ≤ cp ∧ (cp : Int) ≤ 9223372036854775807

set_option maxHeartbeats 400000 in
theorem encode_any (x : Int) (w : World) (h1 : 0 ≤ x) (h2 : x ≤ 4294967295) :
    Calls Tryz.prog 107 #[.int .u32 x] w fun e w' => e = .returned (.agg #[.int .u8 (x / 16777216), .int .u8 (x / 65536 % 256), .int .u8 (x / 256 % 256), .int .u8 (x % 256)]) ∧ w.alloc (.cells #[.int .u8 (x / 16777216), .int .u8 (x / 65536 % 256), .int .u8 (x / 256 % 256), .int .u8 (x % 256)] 168) = w' := by
  go_enter Tryz.func107, Tryz.ntmps107
  go_wp2
  exact bodyPost_ret (v := .agg #[.int .u8 (x / 16777216), .int .u8 (x / 65536 % 256), .int .u8 (x / 256 % 256), .int .u8 (x % 256)]) (by simp [results, Tryz.results107, go_sem]) rfl ⟨rfl, rfl⟩
set_option maxHeartbeats 400000 in
theorem l1Pack_any (x : Int) (w : World) (h1 : 0 ≤ x) (h2 : x ≤ 4294967295) :
    Calls Tryz.prog 74 #[.int .i64 x] w fun e w' => e = .returned (.slice (some ⟨w.heap.size, 0, none⟩) 4 4) ∧ w.alloc (.cells #[.int .u8 (x / 16777216), .int .u8 (x / 65536 % 256), .int .u8 (x / 256 % 256), .int .u8 (x % 256)] 5) = w' := by
  go_enter Tryz.func74, Tryz.ntmps74
  go_wp2
  go_ret
  exact ⟨rfl, rfl⟩
theorem row4 (w : World) (x : Int) (t : TypeId) : (w.alloc (.cells #[.int .u8 (x / 16777216), .int .u8 (x / 65536 % 256), .int .u8 (x / 256 % 256), .int .u8 (x % 256)] t)).rowIs w.heap.size t 4 (fun j => .int .u8 ((pk x).getD j 0)) :=
  World.rowIs_alloc w _ t _ (fun i hi => by
    have hi : i < 4 := hi
    rcases i with _ | _ | _ | _ | i
    · rfl
    · rfl
    · rfl
    · rfl
    · omega)
theorem bres4 {w0 w : World} (x : Int) (t : TypeId) (b : Nat) (h : Below w0.heap.size w0 w) (hb : b = w.heap.size) :
    BRes w0 0 (pk x) (.returned (.agg #[.int .i64 0, .slice (some ⟨b, 0, none⟩) 4 4])) (w.alloc (.cells #[.int .u8 (x / 16777216), .int .u8 (x / 65536 % 256), .int .u8 (x / 256 % 256), .int .u8 (x % 256)] t)) := by
  subst hb
  have hr := row4 w x t
  exact ⟨_, _, rfl, .inr ⟨_, 0, rfl, h.size, hr.lt, Nat.le_refl _, fun j hj => ⟨by rw [Nat.zero_add]; exact hr.cell hj, by rw [Nat.zero_add]; exact hr.frozen j⟩⟩, bal h _, Nat.le_refl _, by omega⟩
end Go.Proofs.YtncnibkojneejaaGreatDoor

/- Copies whose address is left open, for the exact laws. -/
namespace Go.Proofs.YtncnibkojneejaaGreatDoor
open Go.RowKit Go.Deep

theorem Ob.upto {B C C' : Nat} {w : World} {A : Option Addr} {l : List Int} (h : Ob B C w A l) (h1 : C ≤ C') (h2 : C' ≤ w.heap.size) : Ob B C' w A l := by
  rcases h with h | ⟨b, off, h1', h2', h3, h4, h5⟩
  · exact .inl h
  · exact .inr ⟨b, off, h1', h2', by omega, h2, h5⟩
theorem Oi.upto {B C C' : Nat} {w : World} {A : Option Addr} {l : List Int} (h : Oi B C w A l) (h1 : C ≤ C') (h2 : C' ≤ w.heap.size) : Oi B C' w A l := by
  rcases h with h | ⟨b, off, h1', h2', h3, h4, h5⟩
  · exact .inl h
  · exact .inr ⟨b, off, h1', h2', by omega, h2, h5⟩
end Go.Proofs.YtncnibkojneejaaGreatDoor
