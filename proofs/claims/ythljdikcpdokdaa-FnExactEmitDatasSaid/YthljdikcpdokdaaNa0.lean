import Derived.Test.YthljdikcpdokdaaProg
import Derived.WalkKit
import Derived.WalkSpells
import Derived.WalkLawsBesides
import Derived.Laws.Rows
import Derived.Deep.QuietTactic
import Derived.BigQuiet
import Derived.IntWalk
import Derived.Deep.OwnRows

/- What the functions of chapter 1 (words and serial numbers) answer, the program's and the model's, call by call. No condition but those that each line bears. -/
namespace Go.Proofs.Ythljdikcpdokdaa
open Go.RowKit

theorem bal {a w : World} (h : Below a.heap.size a w) (o : Obj) : Below a.heap.size a (w.alloc o) := h.alloc h.size o
theorem btr {a b c : World} (h : Below a.heap.size a b) (k : Below b.heap.size b c) : Below a.heap.size a c := h.trans (k.mono h.size)
theorem bst {a w : World} (h : Below a.heap.size a w) {p : Addr} (hp : a.heap.size ≤ p.block) (u : Value) : Below a.heap.size a (w.setCell p u) := h.setCell hp u

theorem below_drewN {B : Nat} {a w : World} (h : Below B a w) (n : Nat) : Below B a (w.drewN n) := ⟨h.os, h.tape, h.output, h.size, h.block⟩
/-- Block g is just the cells cs of element type t, none frozen. -/
def Blk (w : World) (g : Nat) (t : TypeId) (cs : Array Value) : Prop := w.heap[g]? = some (.cells cs t (0, 0))
theorem Blk.lt {w : World} {g : Nat} {t : TypeId} {cs : Array Value} (h : Blk w g t cs) : g < w.heap.size := by
  rcases Nat.lt_or_ge g w.heap.size with hlt | hge
  · exact hlt
  · unfold Blk at h; rw [Array.getElem?_eq_none hge] at h; cases h
theorem Blk.cell {w : World} {g : Nat} {t : TypeId} {cs : Array Value} (h : Blk w g t cs) (i : Nat) : w.cell? ⟨g, i, none⟩ = cs[i]? := cell_of_row w g i cs t (0, 0) h
theorem Blk.frozen {w : World} {g : Nat} {t : TypeId} {cs : Array Value} (h : Blk w g t cs) (i : Nat) : w.frozen? ⟨g, i, none⟩ = false := by
  unfold Blk at h
  simp [World.frozen?, h]
theorem Blk.new (w : World) (t : TypeId) (cs : Array Value) : Blk (w.alloc (.cells cs t)) w.heap.size t cs := heap_alloc_new w _
theorem Blk.alloc {w : World} {g : Nat} {t : TypeId} {cs : Array Value} (h : Blk w g t cs) (o : Obj) : Blk (w.alloc o) g t cs := (Below.heap_alloc w o g h.lt).trans h
theorem Blk.below {w w' : World} {g : Nat} {t : TypeId} {cs : Array Value} (h : Blk w g t cs) (hb : Below w.heap.size w w') : Blk w' g t cs := (hb.block g h.lt).trans h
/-- What the walk wants of a block of two cells. -/
theorem Blk.two {w : World} {g : Nat} {t : TypeId} {a b : Value} (h : Blk w g t #[a, b]) : w.cell? ⟨g, 0, none⟩ = some a ∧ w.cell? ⟨g, 1, none⟩ = some b ∧ g < w.heap.size := ⟨h.cell 0, h.cell 1, h.lt⟩
theorem hidH {p : Prop} (h : p) : Hid p := h
theorem ret_int {k : IntKind} {a b : Int} (h : a = b) : Ending.returned (.int k a) = .returned (.int k b) := by rw [h]

/-- What a call that answers an IntResult leaves: the answer, and one new block with it. -/
def IntRes (w : World) (c v : Int) (e : Ending) (w' : World) : Prop :=
  e = .returned (.agg #[.int .i64 c, .int .i64 v]) ∧ w.alloc (.cells #[.int .i64 c, .int .i64 v] 38) = w'
def IsW (a : Int) : Prop := 0 ≤ a ∧ a ≤ 4294967295
instance (a : Int) : Decidable (IsW a) := by unfold IsW; infer_instance
def inB (v lo hi : Int) : Bool := decide (lo ≤ v) && decide (v ≤ hi)
def wB (a : Int) : Bool := inB a 0 4294967295
theorem inB_yes {v lo hi : Int} (h1 : lo ≤ v) (h2 : v ≤ hi) : inB v lo hi = true := by simp [inB, h1, h2]
theorem inB_lo {v lo hi : Int} (h1 : v < lo) : inB v lo hi = false := by
  have : ¬ lo ≤ v := by omega
  simp [inB, this]
theorem inB_hi {v lo hi : Int} (h1 : hi < v) : inB v lo hi = false := by
  have : ¬ v ≤ hi := by omega
  simp [inB, this]
theorem wB_yes {a : Int} (h : IsW a) : wB a = true := inB_yes h.1 h.2
theorem wB_no {a : Int} (h : ¬ IsW a) : wB a = false := by
  unfold IsW at h
  by_cases h1 : 0 ≤ a
  · exact inB_hi (by omega)
  · exact inB_lo (by omega)

def addC (a b : Int) : Int := if IsW a ∧ IsW b then 0 else 3
def addV (a b : Int) : Int := if IsW a ∧ IsW b then (a + b) % 4294967296 else 0
def gapV (a b : Int) : Int := if IsW a ∧ IsW b then (b - a) % 4294967296 else 0

set_option maxHeartbeats 400000 in
theorem isWord_any (a : Int) (w : World) : Calls Try.prog 61 #[.int .i64 a] w fun e w' => e = .returned (.bool (wB a)) ∧ w = w' := by
  by_cases h1 : 0 ≤ a
  · rw [show wB a = decide (a ≤ 4294967295) from by simp [wB, inB, h1]]
    go_enter Try.func61, Try.ntmps61
    go_wp2
    go_ret
    exact ⟨rfl, rfl⟩
  · have h : a < 0 := by omega
    rw [show wB a = false from inB_lo h]
    clear h1
    go_enter Try.func61, Try.ntmps61
    go_wp2
    go_ret
    exact ⟨rfl, rfl⟩
set_option maxHeartbeats 400000 in
theorem in_any (v lo hi : Int) (w : World) : Calls Try.prog 84 #[.int .i64 v, .int .i64 lo, .int .i64 hi] w fun e w' => e = .returned (.bool (inB v lo hi)) ∧ w = w' := by
  by_cases h1 : lo ≤ v
  · rw [show inB v lo hi = decide (v ≤ hi) from by simp [inB, h1]]
    go_enter Try.func84, Try.ntmps84
    go_wp2
    go_ret
    exact ⟨rfl, rfl⟩
  · have h : v < lo := by omega
    rw [show inB v lo hi = false from inB_lo h]
    clear h1
    go_enter Try.func84, Try.ntmps84
    go_wp2
    go_ret
    exact ⟨rfl, rfl⟩
set_option maxHeartbeats 400000 in
theorem word32_any (a : Int) (w : World) : Calls Try.prog 82 #[.int .i64 a] w fun e w' => e = .returned (.bool (wB a)) ∧ w = w' := by
  go_enter Try.func82, Try.ntmps82
  go_wp2_with (go_at_call 84; refine (in_any _ _ _ _).mono ?_; rintro e w' ⟨rfl, rfl⟩)
  go_ret
  exact ⟨rfl, rfl⟩
set_option maxHeartbeats 400000 in
theorem l1Add_any (a b : Int) (w : World) (h1 : 0 ≤ a) (h2 : a ≤ 4294967295) (h3 : 0 ≤ b) (h4 : b ≤ 4294967295) :
    Calls Try.prog 69 #[.int .i64 a, .int .i64 b] w fun e w' => e = .returned (.int .i64 ((a + b) % 4294967296)) ∧ w = w' := by
  go_enter Try.func69, Try.ntmps69
  go_wp2
  go_ret
  exact ⟨rfl, rfl⟩
set_option maxHeartbeats 400000 in
theorem l1Gap_any (a b : Int) (w : World) (h1 : 0 ≤ a) (h2 : a ≤ 4294967295) (h3 : 0 ≤ b) (h4 : b ≤ 4294967295) :
    Calls Try.prog 83 #[.int .i64 a, .int .i64 b] w fun e w' => e = .returned (.int .i64 ((b - a) % 4294967296)) ∧ w = w' := by
  have e : ((b - a) % 4294967296 : Int) = (b - a + 4294967296) % 4294967296 := by omega
  rw [e]
  clear e
  go_enter Try.func83, Try.ntmps83
  go_wp2
  go_ret
  exact ⟨rfl, rfl⟩
set_option maxHeartbeats 400000 in
theorem add_impl (a b : Int) (w : World) : Calls Try.prog 35 #[.int .i64 a, .int .i64 b] w (IntRes w (addC a b) (addV a b)) := by
  by_cases ha : IsW a
  · have va := wB_yes ha
    by_cases hb : IsW b
    · have vb := wB_yes hb
      rw [addC, addV, if_pos ⟨ha, hb⟩, if_pos ⟨ha, hb⟩]
      obtain ⟨h1, h2⟩ := ha
      obtain ⟨h3, h4⟩ := hb
      go_enter Try.func35, Try.ntmps35
      go_wp2_with (first | (go_at_call 61; refine (isWord_any _ _).mono ?_; rintro e w' ⟨rfl, rfl⟩))
      exact bodyPost_ret (v := .agg #[.int .i64 0, .int .i64 ((a + b) % 4294967296)]) (by simp [results, Try.results35, go_sem]) rfl ⟨rfl, rfl⟩
    · rw [addC, addV, if_neg (fun h => hb h.2), if_neg (fun h => hb h.2)]
      have vb := wB_no hb
      clear ha hb
      go_enter Try.func35, Try.ntmps35
      go_wp2_with (first | (go_at_call 61; refine (isWord_any _ _).mono ?_; rintro e w' ⟨rfl, rfl⟩))
      exact bodyPost_ret (v := .agg #[.int .i64 3, .int .i64 0]) (by simp [results, Try.results35, go_sem]) rfl ⟨rfl, rfl⟩
  · rw [addC, addV, if_neg (fun h => ha h.1), if_neg (fun h => ha h.1)]
    have va := wB_no ha
    clear ha
    go_enter Try.func35, Try.ntmps35
    go_wp2_with (first | (go_at_call 61; refine (isWord_any _ _).mono ?_; rintro e w' ⟨rfl, rfl⟩))
    exact bodyPost_ret (v := .agg #[.int .i64 3, .int .i64 0]) (by simp [results, Try.results35, go_sem]) rfl ⟨rfl, rfl⟩
set_option maxHeartbeats 400000 in
theorem gap_impl (a b : Int) (w : World) : Calls Try.prog 17 #[.int .i64 a, .int .i64 b] w (IntRes w (addC a b) (gapV a b)) := by
  by_cases ha : IsW a
  · have va := wB_yes ha
    by_cases hb : IsW b
    · have vb := wB_yes hb
      rw [addC, gapV, if_pos ⟨ha, hb⟩, if_pos ⟨ha, hb⟩]
      obtain ⟨h1, h2⟩ := ha
      obtain ⟨h3, h4⟩ := hb
      go_enter Try.func17, Try.ntmps17
      go_wp2_with (first | (go_at_call 61; refine (isWord_any _ _).mono ?_; rintro e w' ⟨rfl, rfl⟩))
      exact bodyPost_ret (v := .agg #[.int .i64 0, .int .i64 ((b - a) % 4294967296)]) (by simp [results, Try.results17, go_sem]) rfl ⟨rfl, rfl⟩
    · rw [addC, gapV, if_neg (fun h => hb h.2), if_neg (fun h => hb h.2)]
      have vb := wB_no hb
      clear ha hb
      go_enter Try.func17, Try.ntmps17
      go_wp2_with (first | (go_at_call 61; refine (isWord_any _ _).mono ?_; rintro e w' ⟨rfl, rfl⟩))
      exact bodyPost_ret (v := .agg #[.int .i64 3, .int .i64 0]) (by simp [results, Try.results17, go_sem]) rfl ⟨rfl, rfl⟩
  · rw [addC, gapV, if_neg (fun h => ha h.1), if_neg (fun h => ha h.1)]
    have va := wB_no ha
    clear ha
    go_enter Try.func17, Try.ntmps17
    go_wp2_with (first | (go_at_call 61; refine (isWord_any _ _).mono ?_; rintro e w' ⟨rfl, rfl⟩))
    exact bodyPost_ret (v := .agg #[.int .i64 3, .int .i64 0]) (by simp [results, Try.results17, go_sem]) rfl ⟨rfl, rfl⟩
end Go.Proofs.Ythljdikcpdokdaa

/- Slices of bytes: what the laws' helpers eqByteS, markByteS, heldByteS and toByteS do. -/
namespace Go.Proofs.Ythljdikcpdokdaa
open Go.RowKit Go.Deep

theorem infoU8 : (Try.prog.info? 5).map (fun i => (i.zero, i.size, i.bytes)) = some (some (.int .u8 0), 1, 1) := by kernel_rfl

/-- A slice value at A reads as the bytes l. -/
def Bs (w : World) (A : Option Addr) (l : List Int) : Prop :=
  l = [] ∨ ∃ b off, A = some ⟨b, off, none⟩ ∧ b < w.heap.size ∧ ∀ j, j < l.length → w.cell? ⟨b, off + j, none⟩ = some (.int .u8 (l.getD j 0))

theorem bs_below {w w' : World} {A : Option Addr} {l : List Int} (h : Bs w A l) (hb : Below w.heap.size w w') : Bs w' A l := by
  rcases h with h | ⟨b, off, h1, h2, h3⟩
  · exact .inl h
  · exact .inr ⟨b, off, h1, Nat.lt_of_lt_of_le h2 hb.size, fun j hj => (hb.cell (p := ⟨b, off + j, none⟩) h2).trans (h3 j hj)⟩

def Bytes (l : List Int) : Prop := ∀ x ∈ l, 0 ≤ x ∧ x ≤ 255
theorem Bytes.get {l : List Int} (h : Bytes l) (k : Nat) : 0 ≤ l.getD k 0 ∧ l.getD k 0 ≤ 255 := by
  rw [List.getD_eq_getElem?_getD]
  rcases Nat.lt_or_ge k l.length with hk | hk
  · rw [List.getElem?_eq_getElem hk]; exact h _ (List.getElem_mem hk)
  · rw [List.getElem?_eq_none hk]; simp
/-- What the law is told of a slice of bytes that came in, as the words here have it. -/
theorem row_bs {w : World} {a : Option Addr} {len cap : Nat} {zs : List Int}
    (h : (a = none ∧ len = 0 ∧ cap = 0 ∧ zs = []) ∨ ∃ x, a = some x ∧ len ≤ cap ∧ cap ≤ maxLen ∧ zs.length = cap ∧ (∀ i, i < zs.length → w.cell? (x.add i) = some (.int .u8 (zs.getD i 0))) ∧ ∀ n ∈ zs, (Lit.int .u8 n).wf = true) :
    ∃ l : List Int, l.length = len ∧ Bs w a l ∧ Bytes l ∧ len ≤ cap ∧ (cap : Int) ≤ 9223372036854775807 := by
  rcases h with ⟨rfl, rfl, rfl, rfl⟩ | ⟨x, rfl, hl, hm, hz, hcell, hwz⟩
  · exact ⟨[], rfl, .inl rfl, fun x hx => by simp at hx, Nat.le_refl _, by omega⟩
  · unfold maxLen at hm
    have hll : (zs.take len).length = len := by rw [List.length_take]; omega
    refine ⟨zs.take len, hll, ?_, fun x hx => ?_, hl, by omega⟩
    · rcases Nat.eq_zero_or_pos len with h0 | h0
      · subst h0; exact .inl rfl
      · obtain ⟨b, off, spot⟩ := x
        have hc := hcell 0 (by omega)
        have hspot : spot = none := by simpa [Addr.add] using World.cell?_spot hc
        subst hspot
        have hc0 : w.cell? ⟨b, off, none⟩ = some (.int .u8 (zs.getD 0 0)) := by simpa [Addr.add] using hc
        refine .inr ⟨b, off, rfl, World.block_lt_of_cell? _ _ hc0, fun j hj => ?_⟩
        have h1 := hcell j (by omega)
        have e : (zs.take len).getD j 0 = zs.getD j 0 := by
          rw [List.getD_eq_getElem?_getD, List.getD_eq_getElem?_getD, List.getElem?_take_of_lt (by omega)]
        rw [e, ← h1]
        rcases j with _ | j <;> simp [Addr.add]
    · have h1 := hwz x (List.mem_of_mem_take hx)
      simp [Lit.wf, IntKind.min, IntKind.max, IntKind.signed, IntKind.bits] at h1
      omega

/-- Of the blocks that were there only those from B on and below C may have turned; no mark has turned. -/
structure Win (B C : Nat) (w w' : World) : Prop where
  os : w'.os = w.os
  tape : w'.tape = w.tape
  output : w'.output = w.output
  size : w.heap.size ≤ w'.heap.size
  block : ∀ k, k < w.heap.size → (k < B ∨ C ≤ k) → w'.heap[k]? = w.heap[k]?
  frozen : ∀ a, a.block < w.heap.size → w'.frozen? a = w.frozen? a
theorem Win.refl (B C : Nat) (w : World) : Win B C w w := ⟨rfl, rfl, rfl, Nat.le_refl _, fun _ _ _ => rfl, fun _ _ => rfl⟩
theorem Win.cell {B C : Nat} {w w' : World} (h : Win B C w w') {p : Addr} (hp : p.block < w.heap.size) (hq : p.block < B ∨ C ≤ p.block) : w'.cell? p = w.cell? p :=
  World.cell?_of_block (w := w) (h.block p.block hp hq)
theorem Win.below {B C : Nat} {w w' : World} (h : Win B C w w') (hB : B ≤ w.heap.size) : Below B w w' :=
  ⟨h.os, h.tape, h.output, h.size, fun k hk => h.block k (by omega) (.inl hk)⟩
theorem bs_win {B C : Nat} {w w' : World} {A : Option Addr} {l : List Int} (h : Bs w A l) (hw : Win B C w w') (ho : ∀ b off, A = some ⟨b, off, none⟩ → b < B ∨ C ≤ b) : Bs w' A l := by
  rcases h with h | ⟨b, off, h1, h2, h3⟩
  · exact .inl h
  · exact .inr ⟨b, off, h1, Nat.lt_of_lt_of_le h2 hw.size, fun j hj => (hw.cell (p := ⟨b, off + j, none⟩) h2 (ho b off h1)).trans (h3 j hj)⟩

/-- A slice value at A reads as the bytes l, in a block from B on and below C, and may be written. -/
def Ob (B C : Nat) (w : World) (A : Option Addr) (l : List Int) : Prop :=
  l = [] ∨ ∃ b off, A = some ⟨b, off, none⟩ ∧ B ≤ b ∧ b < C ∧ C ≤ w.heap.size ∧ ∀ j, j < l.length → w.cell? ⟨b, off + j, none⟩ = some (.int .u8 (l.getD j 0)) ∧ w.frozen? ⟨b, off + j, none⟩ = false
theorem Ob.bs {B C : Nat} {w : World} {A : Option Addr} {l : List Int} (h : Ob B C w A l) : Bs w A l := by
  rcases h with h | ⟨b, off, h1, h2, h3, h4, h5⟩
  · exact .inl h
  · exact .inr ⟨b, off, h1, by omega, fun j hj => (h5 j hj).1⟩
theorem Ob.below {B C : Nat} {w w' : World} {A : Option Addr} {l : List Int} (h : Ob B C w A l) (hb : Below w.heap.size w w') : Ob B C w' A l := by
  rcases h with h | ⟨b, off, h1, h2, h3, h4, h5⟩
  · exact .inl h
  · exact .inr ⟨b, off, h1, h2, h3, Nat.le_trans h4 hb.size, fun j hj => ⟨(hb.cell (p := ⟨b, off + j, none⟩) (by show b < _; omega)).trans (h5 j hj).1, (hb.frozen (p := ⟨b, off + j, none⟩) (by show b < _; omega)).trans (h5 j hj).2⟩⟩

/-- The world behind j marks from k on. -/
def markW (w : World) (b off : Nat) (k : Nat) : Nat → World
  | 0 => w
  | j + 1 => (markW w b off k j).setCell ⟨b, off + j, none⟩ (.int .u8 (((k + j : Nat) : Int) % 256))
def marks (k n : Nat) : List Int := (List.range n).map fun i => ((k + i : Nat) : Int) % 256
theorem marks_len (k n : Nat) : (marks k n).length = n := by simp [marks]
theorem marks_at (k n i : Nat) (h : i < n) : (marks k n).getD i 0 = ((k + i : Nat) : Int) % 256 := by
  simp [marks, List.getD_eq_getElem?_getD, h]
theorem markW_size (w : World) (b off k j : Nat) : (markW w b off k j).heap.size = w.heap.size := by
  induction j with
  | zero => rfl
  | succ j ih => simp [markW, World.setCell, ih]
theorem markW_far (w : World) (b off k j : Nat) (i : Nat) (h : i ≠ b) : (markW w b off k j).heap[i]? = w.heap[i]? := by
  induction j with
  | zero => rfl
  | succ j ih => exact (Below.heap_setCell _ _ _ _ (by simpa using h)).trans ih
theorem markW_other (w : World) (b off k j : Nat) (q : Addr) (h : ∀ i, i < j → q ≠ ⟨b, off + i, none⟩) : (markW w b off k j).cell? q = w.cell? q := by
  induction j with
  | zero => rfl
  | succ j ih => exact (World.cell?_setCell_other _ _ _ _ (fun e => h j (by omega) e.symm)).trans (ih (fun i hi => h i (by omega)))
theorem markW_frozen (w : World) (b off k j : Nat) (q : Addr) : (markW w b off k j).frozen? q = w.frozen? q := by
  induction j with
  | zero => rfl
  | succ j ih => simp [markW, ih]
theorem markW_cell (w : World) (b off k j i : Nat) (h : i < j) (hc : ∀ i, i < j → ∃ v, w.cell? ⟨b, off + i, none⟩ = some v) :
    (markW w b off k j).cell? ⟨b, off + i, none⟩ = some (.int .u8 (((k + i : Nat) : Int) % 256)) := by
  induction j with
  | zero => omega
  | succ j ih =>
    by_cases e : i = j
    · subst e
      obtain ⟨v, hv⟩ := hc i h
      have hv' : (markW w b off k i).cell? ⟨b, off + i, none⟩ = some v := (markW_other w b off k i _ (fun t ht e => by injection e with _ e2; omega)).trans hv
      exact World.cell?_setCell_same _ _ _ hv'
    · exact (World.cell?_setCell_other _ _ _ _ (by intro e2; injection e2 with _ e3; omega)).trans (ih (by omega) (fun i hi => hc i (by omega)))

/-- The marks written over a slice that may be written. -/
theorem mark_win {B C : Nat} {w : World} {b off k : Nat} (hb : B ≤ b) (hc : b < C) (j : Nat) : Win B C w (markW w b off k j) :=
  ⟨by induction j with | zero => rfl | succ j ih => exact ih, by induction j with | zero => rfl | succ j ih => exact ih, by induction j with | zero => rfl | succ j ih => exact ih,
   by rw [markW_size]; exact Nat.le_refl _, fun i _ h => markW_far w b off k j i (by omega), fun a _ => markW_frozen w b off k j a⟩
theorem mark_bs {w : World} {b off k n : Nat} (hb : b < w.heap.size) (hc : ∀ i, i < n → ∃ v, w.cell? ⟨b, off + i, none⟩ = some v) : Bs (markW w b off k n) (some ⟨b, off, none⟩) (marks k n) :=
  .inr ⟨b, off, rfl, by rw [markW_size]; exact hb, fun j hj => by rw [marks_len] at hj; rw [markW_cell w b off k n j hj hc, marks_at k n j hj]⟩

set_option maxHeartbeats 400000 in
theorem markB_any (B C : Nat) (A : Option Addr) (l : List Int) (c k : Nat) (w : World) (hA : Ob B C w A l) (hm : (l.length : Int) ≤ 9223372036854775807) (hk : (k : Int) + l.length ≤ 9223372036854775807) :
    Calls Try.prog 126 #[.slice A l.length c, .int .i64 k] w fun e w' => e = .returned (.int .i64 ((k + l.length : Nat) : Int)) ∧ Win B C w w' ∧ Bs w' A (marks k l.length) := by
  rcases hA with rfl | ⟨b, off, rfl, h1, h2, h3, hA⟩
  · go_enter Try.func126, Try.ntmps126
    go_wp2
    go_loopw [1, 5] (fun v i wr => v = .int .i64 k ∧ i = .int .i64 0 ∧ wr = w) (fun _ _ _ => 0)
    case atStart => exact ⟨rfl, rfl, rfl⟩
    case round =>
      obtain ⟨rfl, rfl, rfl⟩ := hrel
      go_wp2
      go_ret
      exact ⟨rfl, Win.refl _ _ _, .inl rfl⟩
  · go_enter Try.func126, Try.ntmps126
    go_wp2
    go_loopw [1, 5] (fun v i wr => ∃ j : Nat, j ≤ l.length ∧ v = .int .i64 ((k + j : Nat) : Int) ∧ i = .int .i64 j ∧ wr = markW w b off k j) (fun _ i _ => l.length - (intOf i).toNat)
    case atStart => exact ⟨0, Nat.zero_le _, rfl, rfl, rfl⟩
    case round =>
      obtain ⟨j, hj, rfl, rfl, rfl⟩ := hrel
      by_cases hlt : j < l.length
      · have hi : (j : Int) < (l.length : Int) := by omega
        have hv : (((k + j : Nat) : Int)) + 1 ≤ 9223372036854775807 := by omega
        have hc : ∃ v, (markW w b off k j).cell? ⟨b, off + j, none⟩ = some v := ⟨_, (markW_other w b off k j _ (fun t ht e => by injection e with _ e2; omega)).trans (hA j hlt).1⟩
        have hf : (markW w b off k j).frozen? ⟨b, off + j, none⟩ = false := (markW_frozen w b off k j _).trans (hA j hlt).2
        obtain ⟨v, hc⟩ := hc
        clear hA h1 h2 h3
        go_wp2
        go_roundw
        case rel => exact ⟨j + 1, by omega, by go_num, by go_num, rfl⟩
        case measure => simp [intOf]; omega
      · have he : j = l.length := by omega
        subst he
        clear hlt hj
        have hA' : Bs (markW w b off k l.length) (some ⟨b, off, none⟩) (marks k l.length) := mark_bs (by omega) (fun i hi => ⟨_, (hA i hi).1⟩)
        clear hA
        go_wp2
        go_ret
        exact ⟨rfl, mark_win h1 h2 _, hA'⟩
set_option maxHeartbeats 400000 in
theorem heldB_any (A : Option Addr) (n c k : Nat) (w : World) (hA : Bs w A (marks k n)) (hk : (k : Int) + n ≤ 9223372036854775807) :
    Calls Try.prog 169 #[.slice A n c, .int .i64 k] w fun e w' => e = .returned (.int .i64 ((k + n : Nat) : Int)) ∧ w = w' := by
  rcases hA with h | ⟨b, off, rfl, h1, hA⟩
  · obtain rfl : n = 0 := by have := marks_len k n; rw [h] at this; simpa using this.symm
    clear h
    go_enter Try.func169, Try.ntmps169
    go_wp2
    go_loop [1, 5] (fun v i => v = .int .i64 k ∧ i = .int .i64 0) (fun _ _ => 0)
    case atStart => exact ⟨rfl, rfl⟩
    case round =>
      obtain ⟨rfl, rfl⟩ := hrel
      go_wp2
      go_ret
      exact ⟨rfl, rfl⟩
  · rw [marks_len] at hA
    go_enter Try.func169, Try.ntmps169
    go_wp2
    go_loop [1, 5] (fun v i => ∃ j : Nat, j ≤ n ∧ v = .int .i64 ((k + j : Nat) : Int) ∧ i = .int .i64 j) (fun _ i => n - (intOf i).toNat)
    case atStart => exact ⟨0, Nat.zero_le _, rfl, rfl⟩
    case round =>
      obtain ⟨j, hj, rfl, rfl⟩ := hrel
      by_cases hlt : j < n
      · have hi : (j : Int) < (n : Int) := by omega
        have hv : (((k + j : Nat) : Int)) + 1 ≤ 9223372036854775807 := by omega
        have hc := hA j hlt
        rw [marks_at k n j hlt] at hc
        clear hA h1
        go_wp2
        go_round
        case rel => exact ⟨j + 1, by omega, by go_num, by go_num⟩
        case measure => simp [intOf]; omega
      · have he : j = n := by omega
        subst he
        clear hA h1 hlt hj
        go_wp2
        go_ret
        exact ⟨rfl, rfl⟩
set_option maxHeartbeats 400000 in
theorem eqB_same (A B : Option Addr) (l : List Int) (c d : Nat) (w : World) (hA : Bs w A l) (hB : Bs w B l) (hm : (l.length : Int) ≤ 9223372036854775807) :
    Calls Try.prog 123 #[.slice A l.length c, .slice B l.length d] w fun e w' => e = .returned (.bool true) ∧ ∃ k, w.drewN k = w' := by
  rcases hA with rfl | ⟨b, off, rfl, _, hA⟩
  · go_enter Try.func123, Try.ntmps123
    go_wp2
    go_loopw [5] (fun i wr => i = .int .i64 0 ∧ wr = w) (fun _ _ => 0)
    case atStart => exact ⟨rfl, rfl⟩
    case round =>
      obtain ⟨rfl, rfl⟩ := hrel
      go_wp2
      go_ret
      exact ⟨rfl, 0, rfl⟩
  · rcases hB with rfl | ⟨b', off', rfl, _, hB⟩
    · go_enter Try.func123, Try.ntmps123
      go_wp2
      go_loopw [5] (fun i wr => i = .int .i64 0 ∧ wr = w) (fun _ _ => 0)
      case atStart => exact ⟨rfl, rfl⟩
      case round =>
        obtain ⟨rfl, rfl⟩ := hrel
        go_wp2
        go_ret
        exact ⟨rfl, 0, rfl⟩
    · go_enter Try.func123, Try.ntmps123
      go_wp2
      go_loopw [5] (fun i wr => ∃ k n : Nat, k ≤ l.length ∧ i = .int .i64 k ∧ wr = w.drewN n) (fun i _ => l.length - (intOf i).toNat)
      case atStart => exact ⟨0, 0, Nat.zero_le _, rfl, rfl⟩
      case round =>
        obtain ⟨k, n, hk, rfl, rfl⟩ := hrel
        by_cases hlt : k < l.length
        · have cA := hA k hlt
          have cB := hB k hlt
          clear hA hB
          have hi : (k : Int) < (l.length : Int) := by omega
          go_wp2
          go_quiet (fail)
          go_wp2
          go_roundw
          case rel => exact ⟨k + 1, n + nq, by omega, by go_num, rfl⟩
          case measure => simp [intOf]; omega
        · clear hA hB
          go_wp2
          go_ret
          exact ⟨rfl, n, rfl⟩
set_option maxHeartbeats 400000 in
theorem toB_any (A : Option Addr) (l : List Int) (c : Nat) (w : World) (hA : Bs w A l) (hm : l.length ≤ 281474976710656) :
    Calls Try.prog 122 #[.slice A l.length c] w fun e w' => e = .returned (.slice (some ⟨w.heap.size, 0, none⟩) l.length l.length) ∧ Ob w.heap.size (w.heap.size + 1) w' (some ⟨w.heap.size, 0, none⟩) l ∧ Below w.heap.size w w' ∧ w'.heap.size = w.heap.size + 1 := by
  have hmk := run_make_row' (P := Try.prog) 22 5 (.int .u8 0) 1 Try.underlying22 infoU8 rfl .i64 .i64 l.length (by omega) (by omega)
  go_enter Try.func122, Try.ntmps122
  go_wp2
  clear hmk
  go_loopw [4] (fun i wr => ∃ k : Nat, k ≤ l.length ∧ i = .int .i64 k ∧ wr.rowIs w.heap.size 5 l.length (fun j => if j < k then .int .u8 (l.getD j 0) else .int .u8 0) ∧ Below w.heap.size w wr ∧ wr.heap.size = w.heap.size + 1) (fun i _ => l.length - (intOf i).toNat)
  case atStart => exact ⟨0, Nat.zero_le _, rfl, by simpa using World.rowIs_made w (.int .u8 0) l.length 5, bal (Below.refl _ _) _, by simp⟩
  case round =>
    obtain ⟨k, hk, rfl, hr, hb, hs⟩ := hrel
    by_cases hlt : k < l.length
    · rcases hA with rfl | ⟨b, off, rfl, hlt2, hA⟩
      · simp at hlt
      · have hi : (k : Int) < (l.length : Int) := by omega
        have hc : wr.cell? ⟨b, off + k, none⟩ = some (.int .u8 (l.getD k 0)) := (hb.cell (p := ⟨b, off + k, none⟩) hlt2).trans (hA k hlt)
        have hd : wr.cell? ⟨w.heap.size, k, none⟩ = some (if k < k then .int .u8 (l.getD k 0) else .int .u8 0) := hr.cell hlt
        rw [if_neg (by omega)] at hd
        have hf : wr.frozen? ⟨w.heap.size, k, none⟩ = false := hr.frozen k
        have R := hidH hr
        have S := hidH hs
        have B := hidH hb
        clear hA hr hs hb
        go_wp2
        go_roundw
        case rel => exact ⟨k + 1, by omega, by go_num, (R.out.set k _).congr (fun j hj => by
            by_cases e : j = k
            · subst e; rw [if_pos rfl, if_pos (by omega)]; simp [hj]
            · rw [if_neg e]; by_cases e2 : j < k
              · rw [if_pos e2, if_pos (by omega)]
              · rw [if_neg e2, if_neg (by omega)]), bst B.out (Nat.le_refl _) _, by simpa [World.setCell] using S.out⟩
        case measure => simp [intOf]; omega
    · have he : k = l.length := by omega
      subst he
      have hO : Ob w.heap.size (w.heap.size + 1) wr (some ⟨w.heap.size, 0, none⟩) l := .inr ⟨_, 0, rfl, Nat.le_refl _, by omega, by omega, fun j hj => ⟨by rw [Nat.zero_add, hr.cell hj, if_pos hj], hr.frozen _⟩⟩
      have S := hidH hs
      have B := hidH hb
      clear hlt hk hr hA hs hb
      go_wp2
      go_ret
      exact ⟨rfl, hO, B.out, S.out⟩
theorem Win.of_below {B C : Nat} {w w' : World} (h : Below w.heap.size w w') : Win B C w w' :=
  ⟨h.os, h.tape, h.output, h.size, fun k hk _ => h.block k hk, fun _ ha => h.frozen ha⟩
theorem Win.trans {B C : Nat} {a b c : World} (h : Win B C a b) (k : Win B C b c) : Win B C a c :=
  ⟨k.os.trans h.os, k.tape.trans h.tape, k.output.trans h.output, Nat.le_trans h.size k.size, fun i hi ho => (k.block i (Nat.lt_of_lt_of_le hi h.size) ho).trans (h.block i hi ho),
   fun q ha => (k.frozen q (Nat.lt_of_lt_of_le ha h.size)).trans (h.frozen q ha)⟩
theorem Win.blk {B C : Nat} {w w' : World} {g : Nat} {t : TypeId} {cs : Array Value} (hw : Win B C w w') (h : Blk w g t cs) (ho : g < B ∨ C ≤ g) : Blk w' g t cs := (hw.block g h.lt ho).trans h
theorem Ob.far {B C : Nat} {w : World} {A : Option Addr} {l : List Int} (h : Ob B C w A l) : l = [] ∨ ∃ b off, A = some ⟨b, off, none⟩ ∧ B ≤ b ∧ b < C := by
  rcases h with h | ⟨b, off, h1, h2, h3, _⟩
  · exact .inl h
  · exact .inr ⟨b, off, h1, h2, h3⟩
/-- What lies in one window is kept by a write into another. -/
theorem Ob.win {B C B' C' : Nat} {w w' : World} {A : Option Addr} {l : List Int} (h : Ob B C w A l) (hw : Win B' C' w w') (ho : C ≤ B' ∨ C' ≤ B) : Ob B C w' A l := by
  rcases h with h | ⟨b, off, h1, h2, h3, h4, h5⟩
  · exact .inl h
  · exact .inr ⟨b, off, h1, h2, h3, Nat.le_trans h4 hw.size, fun j hj => ⟨(hw.cell (p := ⟨b, off + j, none⟩) (by show b < _; omega) (by show b < _ ∨ _ ≤ b; omega)).trans (h5 j hj).1, (hw.frozen ⟨b, off + j, none⟩ (by show b < _; omega)).trans (h5 j hj).2⟩⟩
end Go.Proofs.Ythljdikcpdokdaa

/- Slices of numbers: what the laws' helpers eqInt64S, markInt64S, heldInt64S and toInt64S do. -/
namespace Go.Proofs.Ythljdikcpdokdaa
open Go.RowKit Go.Deep

theorem infoI64 : (Try.prog.info? 2).map (fun i => (i.zero, i.size, i.bytes)) = some (some (.int .i64 0), 1, 8) := by kernel_rfl

/-- A slice value at A reads as the numbers l. -/
def Is (w : World) (A : Option Addr) (l : List Int) : Prop :=
  l = [] ∨ ∃ b off, A = some ⟨b, off, none⟩ ∧ b < w.heap.size ∧ ∀ j, j < l.length → w.cell? ⟨b, off + j, none⟩ = some (.int .i64 (l.getD j 0))

theorem is_below {w w' : World} {A : Option Addr} {l : List Int} (h : Is w A l) (hb : Below w.heap.size w w') : Is w' A l := by
  rcases h with h | ⟨b, off, h1, h2, h3⟩
  · exact .inl h
  · exact .inr ⟨b, off, h1, Nat.lt_of_lt_of_le h2 hb.size, fun j hj => (hb.cell (p := ⟨b, off + j, none⟩) h2).trans (h3 j hj)⟩

def Ints (l : List Int) : Prop := ∀ x ∈ l, -9223372036854775808 ≤ x ∧ x ≤ 9223372036854775807
/-- What the law is told of a slice of numbers that came in, as the words here have it. -/
theorem row_is {w : World} {a : Option Addr} {len cap : Nat} {zs : List Int}
    (h : (a = none ∧ len = 0 ∧ cap = 0 ∧ zs = []) ∨ ∃ x, a = some x ∧ len ≤ cap ∧ cap ≤ maxLen ∧ zs.length = cap ∧ (∀ i, i < zs.length → w.cell? (x.add i) = some (.int .i64 (zs.getD i 0))) ∧ ∀ n ∈ zs, (Lit.int .i64 n).wf = true) :
    ∃ l : List Int, l.length = len ∧ Is w a l ∧ Ints l ∧ len ≤ cap ∧ (cap : Int) ≤ 9223372036854775807 := by
  rcases h with ⟨rfl, rfl, rfl, rfl⟩ | ⟨x, rfl, hl, hm, hz, hcell, hwz⟩
  · exact ⟨[], rfl, .inl rfl, fun x hx => by simp at hx, Nat.le_refl _, by omega⟩
  · unfold maxLen at hm
    have hll : (zs.take len).length = len := by rw [List.length_take]; omega
    refine ⟨zs.take len, hll, ?_, fun x hx => ?_, hl, by omega⟩
    · rcases Nat.eq_zero_or_pos len with h0 | h0
      · subst h0; exact .inl rfl
      · obtain ⟨b, off, spot⟩ := x
        have hc := hcell 0 (by omega)
        have hspot : spot = none := by simpa [Addr.add] using World.cell?_spot hc
        subst hspot
        have hc0 : w.cell? ⟨b, off, none⟩ = some (.int .i64 (zs.getD 0 0)) := by simpa [Addr.add] using hc
        refine .inr ⟨b, off, rfl, World.block_lt_of_cell? _ _ hc0, fun j hj => ?_⟩
        have h1 := hcell j (by omega)
        have e : (zs.take len).getD j 0 = zs.getD j 0 := by
          rw [List.getD_eq_getElem?_getD, List.getD_eq_getElem?_getD, List.getElem?_take_of_lt (by omega)]
        rw [e, ← h1]
        rcases j with _ | j <;> simp [Addr.add]
    · have h1 := hwz x (List.mem_of_mem_take hx)
      simp [Lit.wf, IntKind.min, IntKind.max, IntKind.signed, IntKind.bits] at h1
      omega

theorem is_win {B C : Nat} {w w' : World} {A : Option Addr} {l : List Int} (h : Is w A l) (hw : Win B C w w') (ho : ∀ b off, A = some ⟨b, off, none⟩ → b < B ∨ C ≤ b) : Is w' A l := by
  rcases h with h | ⟨b, off, h1, h2, h3⟩
  · exact .inl h
  · exact .inr ⟨b, off, h1, Nat.lt_of_lt_of_le h2 hw.size, fun j hj => (hw.cell (p := ⟨b, off + j, none⟩) h2 (ho b off h1)).trans (h3 j hj)⟩

/-- A slice value at A reads as the numbers l, in a block from B on and below C, and may be written. -/
def Oi (B C : Nat) (w : World) (A : Option Addr) (l : List Int) : Prop :=
  l = [] ∨ ∃ b off, A = some ⟨b, off, none⟩ ∧ B ≤ b ∧ b < C ∧ C ≤ w.heap.size ∧ ∀ j, j < l.length → w.cell? ⟨b, off + j, none⟩ = some (.int .i64 (l.getD j 0)) ∧ w.frozen? ⟨b, off + j, none⟩ = false
theorem Oi.is {B C : Nat} {w : World} {A : Option Addr} {l : List Int} (h : Oi B C w A l) : Is w A l := by
  rcases h with h | ⟨b, off, h1, h2, h3, h4, h5⟩
  · exact .inl h
  · exact .inr ⟨b, off, h1, by omega, fun j hj => (h5 j hj).1⟩
theorem Oi.below {B C : Nat} {w w' : World} {A : Option Addr} {l : List Int} (h : Oi B C w A l) (hb : Below w.heap.size w w') : Oi B C w' A l := by
  rcases h with h | ⟨b, off, h1, h2, h3, h4, h5⟩
  · exact .inl h
  · exact .inr ⟨b, off, h1, h2, h3, Nat.le_trans h4 hb.size, fun j hj => ⟨(hb.cell (p := ⟨b, off + j, none⟩) (by show b < _; omega)).trans (h5 j hj).1, (hb.frozen (p := ⟨b, off + j, none⟩) (by show b < _; omega)).trans (h5 j hj).2⟩⟩

/-- The world behind j nums from k on. -/
def markV (w : World) (b off : Nat) (k : Nat) : Nat → World
  | 0 => w
  | j + 1 => (markV w b off k j).setCell ⟨b, off + j, none⟩ (.int .i64 ((k + j : Nat) : Int))
def nums (k n : Nat) : List Int := (List.range n).map fun i => ((k + i : Nat) : Int)
theorem nums_len (k n : Nat) : (nums k n).length = n := by simp [nums]
theorem nums_at (k n i : Nat) (h : i < n) : (nums k n).getD i 0 = ((k + i : Nat) : Int) := by
  simp [nums, List.getD_eq_getElem?_getD, h]
theorem markV_size (w : World) (b off k j : Nat) : (markV w b off k j).heap.size = w.heap.size := by
  induction j with
  | zero => rfl
  | succ j ih => simp [markV, World.setCell, ih]
theorem markV_far (w : World) (b off k j : Nat) (i : Nat) (h : i ≠ b) : (markV w b off k j).heap[i]? = w.heap[i]? := by
  induction j with
  | zero => rfl
  | succ j ih => exact (Below.heap_setCell _ _ _ _ (by simpa using h)).trans ih
theorem markV_other (w : World) (b off k j : Nat) (q : Addr) (h : ∀ i, i < j → q ≠ ⟨b, off + i, none⟩) : (markV w b off k j).cell? q = w.cell? q := by
  induction j with
  | zero => rfl
  | succ j ih => exact (World.cell?_setCell_other _ _ _ _ (fun e => h j (by omega) e.symm)).trans (ih (fun i hi => h i (by omega)))
theorem markV_frozen (w : World) (b off k j : Nat) (q : Addr) : (markV w b off k j).frozen? q = w.frozen? q := by
  induction j with
  | zero => rfl
  | succ j ih => simp [markV, ih]
theorem markV_cell (w : World) (b off k j i : Nat) (h : i < j) (hc : ∀ i, i < j → ∃ v, w.cell? ⟨b, off + i, none⟩ = some v) :
    (markV w b off k j).cell? ⟨b, off + i, none⟩ = some (.int .i64 ((k + i : Nat) : Int)) := by
  induction j with
  | zero => omega
  | succ j ih =>
    by_cases e : i = j
    · subst e
      obtain ⟨v, hv⟩ := hc i h
      have hv' : (markV w b off k i).cell? ⟨b, off + i, none⟩ = some v := (markV_other w b off k i _ (fun t ht e => by injection e with _ e2; omega)).trans hv
      exact World.cell?_setCell_same _ _ _ hv'
    · exact (World.cell?_setCell_other _ _ _ _ (by intro e2; injection e2 with _ e3; omega)).trans (ih (by omega) (fun i hi => hc i (by omega)))

/-- The nums written over a slice that may be written. -/
theorem mark_iwin {B C : Nat} {w : World} {b off k : Nat} (hb : B ≤ b) (hc : b < C) (j : Nat) : Win B C w (markV w b off k j) :=
  ⟨by induction j with | zero => rfl | succ j ih => exact ih, by induction j with | zero => rfl | succ j ih => exact ih, by induction j with | zero => rfl | succ j ih => exact ih,
   by rw [markV_size]; exact Nat.le_refl _, fun i _ h => markV_far w b off k j i (by omega), fun a _ => markV_frozen w b off k j a⟩
theorem mark_is {w : World} {b off k n : Nat} (hb : b < w.heap.size) (hc : ∀ i, i < n → ∃ v, w.cell? ⟨b, off + i, none⟩ = some v) : Is (markV w b off k n) (some ⟨b, off, none⟩) (nums k n) :=
  .inr ⟨b, off, rfl, by rw [markV_size]; exact hb, fun j hj => by rw [nums_len] at hj; rw [markV_cell w b off k n j hj hc, nums_at k n j hj]⟩

set_option maxHeartbeats 400000 in
theorem markI_any (B C : Nat) (A : Option Addr) (l : List Int) (c k : Nat) (w : World) (hA : Oi B C w A l) (hm : (l.length : Int) ≤ 9223372036854775807) (hk : (k : Int) + l.length ≤ 9223372036854775807) :
    Calls Try.prog 124 #[.slice A l.length c, .int .i64 k] w fun e w' => e = .returned (.int .i64 ((k + l.length : Nat) : Int)) ∧ Win B C w w' ∧ Is w' A (nums k l.length) := by
  rcases hA with rfl | ⟨b, off, rfl, h1, h2, h3, hA⟩
  · go_enter Try.func124, Try.ntmps124
    go_wp2
    go_loopw [1, 5] (fun v i wr => v = .int .i64 k ∧ i = .int .i64 0 ∧ wr = w) (fun _ _ _ => 0)
    case atStart => exact ⟨rfl, rfl, rfl⟩
    case round =>
      obtain ⟨rfl, rfl, rfl⟩ := hrel
      go_wp2
      go_ret
      exact ⟨rfl, Win.refl _ _ _, .inl rfl⟩
  · go_enter Try.func124, Try.ntmps124
    go_wp2
    go_loopw [1, 5] (fun v i wr => ∃ j : Nat, j ≤ l.length ∧ v = .int .i64 ((k + j : Nat) : Int) ∧ i = .int .i64 j ∧ wr = markV w b off k j) (fun _ i _ => l.length - (intOf i).toNat)
    case atStart => exact ⟨0, Nat.zero_le _, rfl, rfl, rfl⟩
    case round =>
      obtain ⟨j, hj, rfl, rfl, rfl⟩ := hrel
      by_cases hlt : j < l.length
      · have hi : (j : Int) < (l.length : Int) := by omega
        have hv : (((k + j : Nat) : Int)) + 1 ≤ 9223372036854775807 := by omega
        have hc : ∃ v, (markV w b off k j).cell? ⟨b, off + j, none⟩ = some v := ⟨_, (markV_other w b off k j _ (fun t ht e => by injection e with _ e2; omega)).trans (hA j hlt).1⟩
        have hf : (markV w b off k j).frozen? ⟨b, off + j, none⟩ = false := (markV_frozen w b off k j _).trans (hA j hlt).2
        obtain ⟨v, hc⟩ := hc
        clear hA h1 h2 h3
        go_wp2
        go_roundw
        case rel => exact ⟨j + 1, by omega, by go_num, by go_num, rfl⟩
        case measure => simp [intOf]; omega
      · have he : j = l.length := by omega
        subst he
        clear hlt hj
        have hA' : Is (markV w b off k l.length) (some ⟨b, off, none⟩) (nums k l.length) := mark_is (by omega) (fun i hi => ⟨_, (hA i hi).1⟩)
        clear hA
        go_wp2
        go_ret
        exact ⟨rfl, mark_iwin h1 h2 _, hA'⟩
set_option maxHeartbeats 400000 in
theorem heldI_any (A : Option Addr) (n c k : Nat) (w : World) (hA : Is w A (nums k n)) (hk : (k : Int) + n ≤ 9223372036854775807) :
    Calls Try.prog 167 #[.slice A n c, .int .i64 k] w fun e w' => e = .returned (.int .i64 ((k + n : Nat) : Int)) ∧ w = w' := by
  rcases hA with h | ⟨b, off, rfl, h1, hA⟩
  · obtain rfl : n = 0 := by have := nums_len k n; rw [h] at this; simpa using this.symm
    clear h
    go_enter Try.func167, Try.ntmps167
    go_wp2
    go_loop [1, 5] (fun v i => v = .int .i64 k ∧ i = .int .i64 0) (fun _ _ => 0)
    case atStart => exact ⟨rfl, rfl⟩
    case round =>
      obtain ⟨rfl, rfl⟩ := hrel
      go_wp2
      go_ret
      exact ⟨rfl, rfl⟩
  · rw [nums_len] at hA
    go_enter Try.func167, Try.ntmps167
    go_wp2
    go_loop [1, 5] (fun v i => ∃ j : Nat, j ≤ n ∧ v = .int .i64 ((k + j : Nat) : Int) ∧ i = .int .i64 j) (fun _ i => n - (intOf i).toNat)
    case atStart => exact ⟨0, Nat.zero_le _, rfl, rfl⟩
    case round =>
      obtain ⟨j, hj, rfl, rfl⟩ := hrel
      by_cases hlt : j < n
      · have hi : (j : Int) < (n : Int) := by omega
        have hv : (((k + j : Nat) : Int)) + 1 ≤ 9223372036854775807 := by omega
        have hc := hA j hlt
        rw [nums_at k n j hlt] at hc
        clear hA h1
        go_wp2
        go_round
        case rel => exact ⟨j + 1, by omega, by go_num, by go_num⟩
        case measure => simp [intOf]; omega
      · have he : j = n := by omega
        subst he
        clear hA h1 hlt hj
        go_wp2
        go_ret
        exact ⟨rfl, rfl⟩
set_option maxHeartbeats 400000 in
theorem eqI_same (A B : Option Addr) (l : List Int) (c d : Nat) (w : World) (hA : Is w A l) (hB : Is w B l) (hm : (l.length : Int) ≤ 9223372036854775807) :
    Calls Try.prog 114 #[.slice A l.length c, .slice B l.length d] w fun e w' => e = .returned (.bool true) ∧ ∃ k, w.drewN k = w' := by
  rcases hA with rfl | ⟨b, off, rfl, _, hA⟩
  · go_enter Try.func114, Try.ntmps114
    go_wp2
    go_loopw [5] (fun i wr => i = .int .i64 0 ∧ wr = w) (fun _ _ => 0)
    case atStart => exact ⟨rfl, rfl⟩
    case round =>
      obtain ⟨rfl, rfl⟩ := hrel
      go_wp2
      go_ret
      exact ⟨rfl, 0, rfl⟩
  · rcases hB with rfl | ⟨b', off', rfl, _, hB⟩
    · go_enter Try.func114, Try.ntmps114
      go_wp2
      go_loopw [5] (fun i wr => i = .int .i64 0 ∧ wr = w) (fun _ _ => 0)
      case atStart => exact ⟨rfl, rfl⟩
      case round =>
        obtain ⟨rfl, rfl⟩ := hrel
        go_wp2
        go_ret
        exact ⟨rfl, 0, rfl⟩
    · go_enter Try.func114, Try.ntmps114
      go_wp2
      go_loopw [5] (fun i wr => ∃ k n : Nat, k ≤ l.length ∧ i = .int .i64 k ∧ wr = w.drewN n) (fun i _ => l.length - (intOf i).toNat)
      case atStart => exact ⟨0, 0, Nat.zero_le _, rfl, rfl⟩
      case round =>
        obtain ⟨k, n, hk, rfl, rfl⟩ := hrel
        by_cases hlt : k < l.length
        · have cA := hA k hlt
          have cB := hB k hlt
          clear hA hB
          have hi : (k : Int) < (l.length : Int) := by omega
          go_wp2
          go_quiet (fail)
          go_wp2
          go_roundw
          case rel => exact ⟨k + 1, n + nq, by omega, by go_num, rfl⟩
          case measure => simp [intOf]; omega
        · clear hA hB
          go_wp2
          go_ret
          exact ⟨rfl, n, rfl⟩
set_option maxHeartbeats 400000 in
theorem toI_any (A : Option Addr) (l : List Int) (c : Nat) (w : World) (hA : Is w A l) (hm : 8 * l.length ≤ 281474976710656) :
    Calls Try.prog 112 #[.slice A l.length c] w fun e w' => e = .returned (.slice (some ⟨w.heap.size, 0, none⟩) l.length l.length) ∧ Oi w.heap.size (w.heap.size + 1) w' (some ⟨w.heap.size, 0, none⟩) l ∧ Below w.heap.size w w' ∧ w'.heap.size = w.heap.size + 1 := by
  have hmk := run_make_row' (P := Try.prog) 24 2 (.int .i64 0) 8 Try.underlying24 infoI64 rfl .i64 .i64 l.length (by omega) (by omega)
  go_enter Try.func112, Try.ntmps112
  go_wp2
  clear hmk
  go_loopw [4] (fun i wr => ∃ k : Nat, k ≤ l.length ∧ i = .int .i64 k ∧ wr.rowIs w.heap.size 2 l.length (fun j => if j < k then .int .i64 (l.getD j 0) else .int .i64 0) ∧ Below w.heap.size w wr ∧ wr.heap.size = w.heap.size + 1) (fun i _ => l.length - (intOf i).toNat)
  case atStart => exact ⟨0, Nat.zero_le _, rfl, by simpa using World.rowIs_made w (.int .i64 0) l.length 2, bal (Below.refl _ _) _, by simp⟩
  case round =>
    obtain ⟨k, hk, rfl, hr, hb, hs⟩ := hrel
    by_cases hlt : k < l.length
    · rcases hA with rfl | ⟨b, off, rfl, hlt2, hA⟩
      · simp at hlt
      · have hi : (k : Int) < (l.length : Int) := by omega
        have hc : wr.cell? ⟨b, off + k, none⟩ = some (.int .i64 (l.getD k 0)) := (hb.cell (p := ⟨b, off + k, none⟩) hlt2).trans (hA k hlt)
        have hd : wr.cell? ⟨w.heap.size, k, none⟩ = some (if k < k then .int .i64 (l.getD k 0) else .int .i64 0) := hr.cell hlt
        rw [if_neg (by omega)] at hd
        have hf : wr.frozen? ⟨w.heap.size, k, none⟩ = false := hr.frozen k
        have R := hidH hr
        have S := hidH hs
        have B := hidH hb
        clear hA hr hs hb
        go_wp2
        go_roundw
        case rel => exact ⟨k + 1, by omega, by go_num, (R.out.set k _).congr (fun j hj => by
            by_cases e : j = k
            · subst e; rw [if_pos rfl, if_pos (by omega)]; simp [hj]
            · rw [if_neg e]; by_cases e2 : j < k
              · rw [if_pos e2, if_pos (by omega)]
              · rw [if_neg e2, if_neg (by omega)]), bst B.out (Nat.le_refl _) _, by simpa [World.setCell] using S.out⟩
        case measure => simp [intOf]; omega
    · have he : k = l.length := by omega
      subst he
      have hO : Oi w.heap.size (w.heap.size + 1) wr (some ⟨w.heap.size, 0, none⟩) l := .inr ⟨_, 0, rfl, Nat.le_refl _, by omega, by omega, fun j hj => ⟨by rw [Nat.zero_add, hr.cell hj, if_pos hj], hr.frozen _⟩⟩
      have S := hidH hs
      have B := hidH hb
      clear hlt hk hr hA hs hb
      go_wp2
      go_ret
      exact ⟨rfl, hO, B.out, S.out⟩
theorem Oi.far {B C : Nat} {w : World} {A : Option Addr} {l : List Int} (h : Oi B C w A l) : l = [] ∨ ∃ b off, A = some ⟨b, off, none⟩ ∧ B ≤ b ∧ b < C := by
  rcases h with h | ⟨b, off, h1, h2, h3, _⟩
  · exact .inl h
  · exact .inr ⟨b, off, h1, h2, h3⟩
/-- What lies in one window is kept by a write into another. -/
theorem Oi.win {B C B' C' : Nat} {w w' : World} {A : Option Addr} {l : List Int} (h : Oi B C w A l) (hw : Win B' C' w w') (ho : C ≤ B' ∨ C' ≤ B) : Oi B C w' A l := by
  rcases h with h | ⟨b, off, h1, h2, h3, h4, h5⟩
  · exact .inl h
  · exact .inr ⟨b, off, h1, h2, h3, Nat.le_trans h4 hw.size, fun j hj => ⟨(hw.cell (p := ⟨b, off + j, none⟩) (by show b < _; omega) (by show b < _ ∨ _ ≤ b; omega)).trans (h5 j hj).1, (hw.frozen ⟨b, off + j, none⟩ (by show b < _; omega)).trans (h5 j hj).2⟩⟩
end Go.Proofs.Ythljdikcpdokdaa
