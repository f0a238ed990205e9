import Derived.Test.YtepcikghhnfacaaDoorBytes
import Derived.Deep.QuietTactic
import Derived.BigQuiet
import Derived.IntWalk
import Derived.Deep.OwnRows
import Derived.Test.YtepcikghhnfacaaDoorJa1
import Derived.Test.YtepcikghhnfacaaDoorJa3
import Derived.Test.YtepcikghhnfacaaDoorWords
import Derived.Laws.BitsAllLaws

/- Slices of numbers: what the laws' helpers eqInt64S, markInt64S, heldInt64S and toInt64S do. -/
namespace Go.Proofs.YtepcikghhnfacaaDoor
open Go.RowKit Go.Deep

theorem infoI64 : (Tryd.prog.info? 2).map (fun i => (i.zero, i.size, i.bytes)) = some (some (.int .i64 0), 1, 8) := by kernel_rfl

/-- A slice value at A reads as the numbers l. -/
def Is (w : World) (A : Option Addr) (l : List Int) : Prop :=
  l = [] ∨ ∃ b off, A = some ⟨b, off, none⟩ ∧ b < w.heap.size ∧ ∀ j, j < l.length → w.cell? ⟨b, off + j, none⟩ = some (.int .i64 (l.getD j 0))

theorem is_below {w w' : World} {A : Option Addr} {l : List Int} (h : Is w A l) (hb : Below w.heap.size w w') : Is w' A l := by
  rcases h with h | ⟨b, off, h1, h2, h3⟩
  · exact .inl h
  · exact .inr ⟨b, off, h1, Nat.lt_of_lt_of_le h2 hb.size, fun j hj => (hb.cell (p := ⟨b, off + j, none⟩) h2).trans (h3 j hj)⟩

def Ints (l : List Int) : Prop := ∀ x ∈ l, -9223372036854775808 ≤ x ∧ x ≤ 9223372036854775807
/-- What the law is told of a slice of numbers that came in, as the words here have it. -/
theorem row_is {w : World} {a : Option Addr} {len cap : Nat} {zs : List Int}
    (h : (a = none ∧ len = 0 ∧ cap = 0 ∧ zs = []) ∨ ∃ x, a = some x ∧ len ≤ cap ∧ cap ≤ maxLen ∧ zs.length = cap ∧ (∀ i, i < zs.length → w.cell? (x.add i) = some (.int .i64 (zs.getD i 0))) ∧ ∀ n ∈ zs, (Lit.int .i64 n).wf = true) :
    ∃ l : List Int, l.length = len ∧ Is w a l ∧ Ints l ∧ len ≤ cap ∧ (cap : Int) ≤ 9223372036854775807 := by
  rcases h with ⟨rfl, rfl, rfl, rfl⟩ | ⟨x, rfl, hl, hm, hz, hcell, hwz⟩
  · exact ⟨[], rfl, .inl rfl, fun x hx => by simp at hx, Nat.le_refl _, by omega⟩
  · unfold maxLen at hm
    have hll : (zs.take len).length = len := by rw [List.length_take]; omega
    refine ⟨zs.take len, hll, ?_, fun x hx => ?_, hl, by omega⟩
    · rcases Nat.eq_zero_or_pos len with h0 | h0
      · subst h0; exact .inl rfl
      · obtain ⟨b, off, spot⟩ := x
        have hc := hcell 0 (by omega)
        have hspot : spot = none := by simpa [Addr.add] using World.cell?_spot hc
        subst hspot
        have hc0 : w.cell? ⟨b, off, none⟩ = some (.int .i64 (zs.getD 0 0)) := by simpa [Addr.add] using hc
        refine .inr ⟨b, off, rfl, World.block_lt_of_cell? _ _ hc0, fun j hj => ?_⟩
        have h1 := hcell j (by omega)
        have e : (zs.take len).getD j 0 = zs.getD j 0 := by
          rw [List.getD_eq_getElem?_getD, List.getD_eq_getElem?_getD, List.getElem?_take_of_lt (by omega)]
        rw [e, ← h1]
        rcases j with _ | j <;> simp [Addr.add]
    · have h1 := hwz x (List.mem_of_mem_take hx)
      simp [Lit.wf, IntKind.min, IntKind.max, IntKind.signed, IntKind.bits] at h1
      omega

theorem is_win {B C : Nat} {w w' : World} {A : Option Addr} {l : List Int} (h : Is w A l) (hw : Win B C w w') (ho : ∀ b off, A = some ⟨b, off, none⟩ → b < B ∨ C ≤ b) : Is w' A l := by
  rcases h with h | ⟨b, off, h1, h2, h3⟩
  · exact .inl h
  · exact .inr ⟨b, off, h1, Nat.lt_of_lt_of_le h2 hw.size, fun j hj => (hw.cell (p := ⟨b, off + j, none⟩) h2 (ho b off h1)).trans (h3 j hj)⟩

/-- A slice value at A reads as the numbers l, in a block from B on and below C, and may be written. -/
def Oi (B C : Nat) (w : World) (A : Option Addr) (l : List Int) : Prop :=
  l = [] ∨ ∃ b off, A = some ⟨b, off, none⟩ ∧ B ≤ b ∧ b < C ∧ C ≤ w.heap.size ∧ ∀ j, j < l.length → w.cell? ⟨b, off + j, none⟩ = some (.int .i64 (l.getD j 0)) ∧ w.frozen? ⟨b, off + j, none⟩ = false
theorem Oi.is {B C : Nat} {w : World} {A : Option Addr} {l : List Int} (h : Oi B C w A l) : Is w A l := by
  rcases h with h | ⟨b, off, h1, h2, h3, h4, h5⟩
  · exact .inl h
  · exact .inr ⟨b, off, h1, by omega, fun j hj => (h5 j hj).1⟩
theorem Oi.below {B C : Nat} {w w' : World} {A : Option Addr} {l : List Int} (h : Oi B C w A l) (hb : Below w.heap.size w w') : Oi B C w' A l := by
  rcases h with h | ⟨b, off, h1, h2, h3, h4, h5⟩
  · exact .inl h
  · exact .inr ⟨b, off, h1, h2, h3, Nat.le_trans h4 hb.size, fun j hj => ⟨(hb.cell (p := ⟨b, off + j, none⟩) (by show b < _; omega)).trans (h5 j hj).1, (hb.frozen (p := ⟨b, off + j, none⟩) (by show b < _; omega)).trans (h5 j hj).2⟩⟩

/-- The world behind j nums from k on. -/
def markV (w : World) (b off : Nat) (k : Nat) : Nat → World
  | 0 => w
  | j + 1 => (markV w b off k j).setCell ⟨b, off + j, none⟩ (.int .i64 ((k + j : Nat) : Int))
def nums (k n : Nat) : List Int := (List.range n).map fun i => ((k + i : Nat) : Int)
theorem nums_len (k n : Nat) : (nums k n).length = n := by simp [nums]
theorem nums_at (k n i : Nat) (h : i < n) : (nums k n).getD i 0 = ((k + i : Nat) : Int) := by
  simp [nums, List.getD_eq_getElem?_getD, h]
theorem markV_size (w : World) (b off k j : Nat) : (markV w b off k j).heap.size = w.heap.size := by
  induction j with
  | zero => rfl
  | succ j ih => simp [markV, World.setCell, ih]
theorem markV_far (w : World) (b off k j : Nat) (i : Nat) (h : i ≠ b) : (markV w b off k j).heap[i]? = w.heap[i]? := by
  induction j with
  | zero => rfl
  | succ j ih => exact (Below.heap_setCell _ _ _ _ (by simpa using h)).trans ih
theorem markV_other (w : World) (b off k j : Nat) (q : Addr) (h : ∀ i, i < j → q ≠ ⟨b, off + i, none⟩) : (markV w b off k j).cell? q = w.cell? q := by
  induction j with
  | zero => rfl
  | succ j ih => exact (World.cell?_setCell_other _ _ _ _ (fun e => h j (by omega) e.symm)).trans (ih (fun i hi => h i (by omega)))
theorem markV_frozen (w : World) (b off k j : Nat) (q : Addr) : (markV w b off k j).frozen? q = w.frozen? q := by
  induction j with
  | zero => rfl
  | succ j ih => simp [markV, ih]
theorem markV_cell (w : World) (b off k j i : Nat) (h : i < j) (hc : ∀ i, i < j → ∃ v, w.cell? ⟨b, off + i, none⟩ = some v) :
    (markV w b off k j).cell? ⟨b, off + i, none⟩ = some (.int .i64 ((k + i : Nat) : Int)) := by
  induction j with
  | zero => omega
  | succ j ih =>
    by_cases e : i = j
    · subst e
      obtain ⟨v, hv⟩ := hc i h
      have hv' : (markV w b off k i).cell? ⟨b, off + i, none⟩ = some v := (markV_other w b off k i _ (fun t ht e => by injection e with _ e2; omega)).trans hv
      exact World.cell?_setCell_same _ _ _ hv'
    · exact (World.cell?_setCell_other _ _ _ _ (by intro e2; injection e2 with _ e3; omega)).trans (ih (by omega) (fun i hi => hc i (by omega)))

/-- The nums written over a slice that may be written. -/
theorem mark_iwin {B C : Nat} {w : World} {b off k : Nat} (hb : B ≤ b) (hc : b < C) (j : Nat) : Win B C w (markV w b off k j) :=
  ⟨by induction j with | zero => rfl | succ j ih => exact ih, by induction j with | zero => rfl | succ j ih => exact ih, by induction j with | zero => rfl | succ j ih => exact ih,
   by rw [markV_size]; exact Nat.le_refl _, fun i _ h => markV_far w b off k j i (by omega), fun a _ => markV_frozen w b off k j a⟩
theorem mark_is {w : World} {b off k n : Nat} (hb : b < w.heap.size) (hc : ∀ i, i < n → ∃ v, w.cell? ⟨b, off + i, none⟩ = some v) : Is (markV w b off k n) (some ⟨b, off, none⟩) (nums k n) :=
  .inr ⟨b, off, rfl, by rw [markV_size]; exact hb, fun j hj => by rw [nums_len] at hj; rw [markV_cell w b off k n j hj hc, nums_at k n j hj]⟩

theorem Oi.far {B C : Nat} {w : World} {A : Option Addr} {l : List Int} (h : Oi B C w A l) : l = [] ∨ ∃ b off, A = some ⟨b, off, none⟩ ∧ B ≤ b ∧ b < C := by
  rcases h with h | ⟨b, off, h1, h2, h3, _⟩
  · exact .inl h
  · exact .inr ⟨b, off, h1, h2, h3⟩
/-- What lies in one window is kept by a write into another. -/
theorem Oi.win {B C B' C' : Nat} {w w' : World} {A : Option Addr} {l : List Int} (h : Oi B C w A l) (hw : Win B' C' w w') (ho : C ≤ B' ∨ C' ≤ B) : Oi B C w' A l := by
  rcases h with h | ⟨b, off, h1, h2, h3, h4, h5⟩
  · exact .inl h
  · exact .inr ⟨b, off, h1, h2, h3, Nat.le_trans h4 hw.size, fun j hj => ⟨(hw.cell (p := ⟨b, off + j, none⟩) (by show b < _; omega) (by show b < _ ∨ _ ≤ b; omega)).trans (h5 j hj).1, (hw.frozen ⟨b, off + j, none⟩ (by show b < _; omega)).trans (h5 j hj).2⟩⟩
end Go.Proofs.YtepcikghhnfacaaDoor

/- Copies whose address is left open, for the exact laws. -/
namespace Go.Proofs.YtepcikghhnfacaaDoor
open Go.RowKit Go.Deep

theorem Ob.upto {B C C' : Nat} {w : World} {A : Option Addr} {l : List Int} (h : Ob B C w A l) (h1 : C ≤ C') (h2 : C' ≤ w.heap.size) : Ob B C' w A l := by
  rcases h with h | ⟨b, off, h1', h2', h3, h4, h5⟩
  · exact .inl h
  · exact .inr ⟨b, off, h1', h2', by omega, h2, h5⟩
theorem Oi.upto {B C C' : Nat} {w : World} {A : Option Addr} {l : List Int} (h : Oi B C w A l) (h1 : C ≤ C') (h2 : C' ≤ w.heap.size) : Oi B C' w A l := by
  rcases h with h | ⟨b, off, h1', h2', h3, h4, h5⟩
  · exact .inl h
  · exact .inr ⟨b, off, h1', h2', by omega, h2, h5⟩
theorem toB' (A : Option Addr) (l : List Int) (c : Nat) (w : World) (hA : Bs w A l) (hm : l.length ≤ 281474976710656) :
    Calls Tryd.prog 18 #[.slice A l.length c] w fun e w' => ∃ A', e = .returned (.slice A' l.length l.length) ∧ Ob w.heap.size w'.heap.size w' A' l ∧ Below w.heap.size w w' :=
  (toB_any A l c w hA hm).mono fun _ _ h => ⟨_, h.1, h.2.1.upto (by omega) (Nat.le_refl _), h.2.2.1⟩
end Go.Proofs.YtepcikghhnfacaaDoor

/- The laws' helpers for chunks: szByteS, szChunk, toChunk, eqChunk, markChunk. -/
namespace Go.Proofs.YtepcikghhnfacaaDoor
open Go.RowKit Go.Deep

theorem Blk.three {w : World} {g : Nat} {t : TypeId} {a b c : Value} (h : Blk w g t #[a, b, c]) : w.cell? ⟨g, 0, none⟩ = some a ∧ w.cell? ⟨g, 1, none⟩ = some b ∧ w.cell? ⟨g, 2, none⟩ = some c ∧ g < w.heap.size := ⟨h.cell 0, h.cell 1, h.cell 2, h.lt⟩
theorem chM_le (k f : Int) (b : List Int) : ((chM k f b).length : Int) ≤ 100000 := by
  unfold chM
  split
  · next h =>
    have := chF_zero h
    rw [chL_len]; unfold chPad; omega
  · simp
theorem three_of {α : Type} {cs : Array α} (h : cs.size = 3) : ∃ a b c, cs = #[a, b, c] := by
  obtain ⟨l⟩ := cs
  rcases l with _ | ⟨a, _ | ⟨b, _ | ⟨c, _ | ⟨d, r⟩⟩⟩⟩ <;> simp at h
  exact ⟨a, b, c, rfl⟩
def szL (left : Int) (n : Nat) : Int := if left - (n : Int) < 0 then -1 else left - (n : Int)
theorem szL_le (left : Int) (n : Nat) (h1 : left ≤ 1048576) : -1 ≤ szL left n ∧ szL left n ≤ 1048576 := by unfold szL; split <;> omega
set_option maxHeartbeats 1000000 in
theorem eqCh_same (k f : Int) (A B : Option Addr) (b : List Int) (c d : Nat) (w : World) (hA : Bs w A b) (hB : Bs w B b) (hm : (b.length : Int) ≤ 9223372036854775807) :
    Calls Tryd.prog 79 #[ckV k f A b.length c, ckV k f B b.length d] w fun e w' => e = .returned (.bool true) ∧ Below w.heap.size w w' := by
  have B2 := bal (bal (Below.refl w.heap.size w) (.cells #[.int .i64 k, .int .i64 f, .slice A b.length c] 49)) (.cells #[.int .i64 k, .int .i64 f, .slice B b.length d] 49)
  have HS := hidH (eqB_same A B b c d _ (bs_below hA B2) (bs_below hB B2) hm)
  have HB := hidH B2
  unfold ckV
  clear hA hB B2
  go_enter Tryd.func79, Tryd.ntmps79
  go_wp2_with fail
  refine HS.out.mono ?_
  rintro e w' ⟨rfl, dd, rfl⟩
  go_wp2
  go_ret
  exact ⟨rfl, below_drewN HB.out _⟩
end Go.Proofs.YtepcikghhnfacaaDoor

/- CRC-32C as a function on numbers: a byte that is turned always turns it. Nothing of the program. -/
namespace Go.Proofs.YtepcikghhnfacaaDoor

theorem xor_can {a b c : Nat} (h : a ^^^ c = b ^^^ c) : a = b := by
  have := congrArg (· ^^^ c) h
  simpa [Nat.xor_assoc] using this
theorem xor_can' {a b c : Nat} (h : c ^^^ a = c ^^^ b) : a = b := xor_can (c := c) (by rw [Nat.xor_comm a, Nat.xor_comm b]; exact h)
def crcBit (n : Nat) : Nat := if n % 2 = 1 then n / 2 ^^^ 2197175160 else n / 2
def crcBits (n : Nat) : Nat → Nat
  | 0 => n
  | k + 1 => crcBit (crcBits n k)
def crcStep (n b : Nat) : Nat := crcBits (n ^^^ b) 8
def crcTo (n : Nat) (l : List Nat) : Nat := l.foldl crcStep n
def crcV (l : List Nat) : Nat := crcTo 4294967295 l ^^^ 4294967295
theorem crcBit_lt {n : Nat} (h : n < 4294967296) : crcBit n < 4294967296 := by
  unfold crcBit
  split
  · exact Nat.xor_lt_two_pow (n := 32) (by omega) (by omega)
  · omega
theorem crcBits_lt {n : Nat} (h : n < 4294967296) (k : Nat) : crcBits n k < 4294967296 := by
  induction k with
  | zero => exact h
  | succ k ih => exact crcBit_lt ih
/-- The polynomial's highest bit tells whether the number was odd. -/
theorem crcBit_top {n : Nat} (h : n < 4294967296) : (crcBit n).testBit 31 = decide (n % 2 = 1) := by
  have hd : (n / 2).testBit 31 = false := Nat.testBit_lt_two_pow (by omega)
  unfold crcBit
  split
  · next ho => rw [Nat.testBit_xor, hd, ho]; decide
  · next ho => rw [hd]; simp [ho]
theorem crcBit_inj {a b : Nat} (ha : a < 4294967296) (hb : b < 4294967296) (h : crcBit a = crcBit b) : a = b := by
  have h1 := crcBit_top ha
  have h2 := crcBit_top hb
  rw [h, h2] at h1
  unfold crcBit at h
  by_cases hA : a % 2 = 1
  · have hB : b % 2 = 1 := by simpa [hA] using h1
    rw [if_pos hA, if_pos hB] at h
    have := xor_can h
    omega
  · have hB : ¬ b % 2 = 1 := by simpa [hA] using h1
    rw [if_neg hA, if_neg hB] at h
    omega
theorem crcBits_inj {a b : Nat} (ha : a < 4294967296) (hb : b < 4294967296) (k : Nat) (h : crcBits a k = crcBits b k) : a = b := by
  induction k with
  | zero => exact h
  | succ k ih => exact ih (crcBit_inj (crcBits_lt ha k) (crcBits_lt hb k) h)
theorem crc_xor_lt {n b : Nat} (hn : n < 4294967296) (hb : b < 256) : n ^^^ b < 4294967296 := Nat.xor_lt_two_pow (n := 32) hn (by omega)
theorem crcStep_lt {n b : Nat} (hn : n < 4294967296) (hb : b < 256) : crcStep n b < 4294967296 := crcBits_lt (crc_xor_lt hn hb) 8
theorem crcTo_lt {n : Nat} {l : List Nat} (hn : n < 4294967296) (hl : ∀ x ∈ l, x < 256) : crcTo n l < 4294967296 := by
  induction l generalizing n with
  | nil => exact hn
  | cons x l ih => exact ih (crcStep_lt hn (hl x (by simp))) (fun y hy => hl y (by simp [hy]))
theorem crcTo_inj {a b : Nat} {l : List Nat} (ha : a < 4294967296) (hb : b < 4294967296) (hl : ∀ x ∈ l, x < 256) (h : crcTo a l = crcTo b l) : a = b := by
  induction l generalizing a b with
  | nil => exact h
  | cons x l ih =>
    have hx := hl x (by simp)
    have := ih (crcStep_lt ha hx) (crcStep_lt hb hx) (fun y hy => hl y (by simp [hy])) h
    exact xor_can (crcBits_inj (crc_xor_lt ha hx) (crc_xor_lt hb hx) 8 this)
/-- One byte turned: another sum. -/
theorem crcTo_turn {n : Nat} {l : List Nat} (k v : Nat) (hn : n < 4294967296) (hl : ∀ x ∈ l, x < 256) (hk : k < l.length) (hv : v < 256) (hne : v ≠ l.getD k 0) : crcTo n (l.set k v) ≠ crcTo n l := by
  induction l generalizing n k with
  | nil => simp at hk
  | cons x l ih =>
    have hx := hl x (by simp)
    have hl' : ∀ y ∈ l, y < 256 := fun y hy => hl y (by simp [hy])
    cases k with
    | zero =>
      intro h
      simp only [List.set_cons_zero] at h
      have h2 := crcTo_inj (crcStep_lt hn hv) (crcStep_lt hn hx) hl' h
      have h3 := crcBits_inj (crc_xor_lt hn hv) (crc_xor_lt hn hx) 8 h2
      exact hne (by simpa using xor_can' h3)
    | succ k =>
      simp only [List.set_cons_succ]
      exact ih k (crcStep_lt hn hx) hl' (by simpa using hk) (by simpa using hne)
theorem crcV_lt {l : List Nat} (hl : ∀ x ∈ l, x < 256) : crcV l < 4294967296 := Nat.xor_lt_two_pow (n := 32) (crcTo_lt (by omega) hl) (by omega)
theorem crcV_turn {l : List Nat} (k v : Nat) (hl : ∀ x ∈ l, x < 256) (hk : k < l.length) (hv : v < 256) (hne : v ≠ l.getD k 0) : crcV (l.set k v) ≠ crcV l := fun h =>
  crcTo_turn k v (by decide) hl hk hv hne (xor_can h)
end Go.Proofs.YtepcikghhnfacaaDoor

/- What SerialLess answers, the program's and the model's, and what the comparison of two IntResults answers. No condition. -/
namespace Go.Proofs.YtepcikghhnfacaaDoor
open Go.RowKit

def lessB (a b : Int) : Bool := inB (gapV a b) 1 2147483647
theorem gapV_no {a b : Int} (h : ¬ (IsW a ∧ IsW b)) : gapV a b = 0 := by rw [gapV, if_neg h]
theorem addC_no {a b : Int} (h : ¬ (IsW a ∧ IsW b)) : addC a b = 3 := by rw [addC, if_neg h]
theorem addC_yes {a b : Int} (h : IsW a ∧ IsW b) : addC a b = 0 := by rw [addC, if_pos h]

end Go.Proofs.YtepcikghhnfacaaDoor

/- The model's Crc32c. -/
namespace Go.Proofs.YtepcikghhnfacaaDoor
open Go.RowKit Go.Deep

theorem i64_xor_nat (a b : Nat) (ha : a < 4294967296) (hb : b < 4294967296) : bits .xor .i64 (a : Int) (b : Int) = ((a ^^^ b : Nat) : Int) := by
  have hx : a ^^^ b < 4294967296 := Nat.xor_lt_two_pow (n := 32) ha hb
  show IntKind.i64.wrap ((BitVec.ofInt 64 (a : Int) ^^^ BitVec.ofInt 64 (b : Int)).toNat : Int) = _
  rw [BitVec.toNat_xor, ofInt_u64 a (by omega), ofInt_u64 b (by omega)]
  exact IntWalk.i64_in _ (by omega)
def nB (l : List Int) : List Nat := l.map Int.toNat
theorem nB_lt {l : List Int} (h : Bytes l) : ∀ x ∈ nB l, x < 256 := by
  intro x hx
  simp only [nB, List.mem_map] at hx
  obtain ⟨y, hy, rfl⟩ := hx
  have := h y hy
  omega
theorem nB_get (l : List Int) (k : Nat) : (nB l).getD k 0 = (l.getD k 0).toNat := by
  simp only [nB, List.getD_eq_getElem?_getD, List.getElem?_map]
  cases l[k]? <;> rfl
def crcP (l : List Nat) (k : Nat) : Nat := crcTo 4294967295 (l.take k)
theorem crcP_succ (l : List Nat) (k : Nat) (hk : k < l.length) : crcP l (k + 1) = crcBits (crcP l k ^^^ l.getD k 0) 8 := by
  rw [crcP, List.take_succ_eq_append_getElem hk, crcTo, List.foldl_append, List.getD_eq_getElem?_getD, List.getElem?_eq_getElem hk]
  rfl
theorem crcP_lt {l : List Nat} (hl : ∀ x ∈ l, x < 256) (k : Nat) : crcP l k < 4294967296 := crcTo_lt (by decide) (fun x hx => hl x (List.mem_of_mem_take hx))
set_option maxHeartbeats 2000000 in
theorem crc_any (A : Option Addr) (l : List Int) (c : Nat) (w : World) (hA : Bs w A l) (hl : Bytes l) (hm : (l.length : Int) ≤ 9223372036854775807) :
    Calls Tryd.prog 34 #[.slice A l.length c] w fun e w' => e = .returned (.int .i64 ((crcV (nB l) : Nat) : Int)) ∧ ∃ k, w.drewN k = w' := by
  have hb := nB_lt hl
  have hgt := nB_get l
  have hnl : (nB l).length = l.length := by simp [nB]
  have hend : crcV (nB l) = crcP (nB l) l.length ^^^ 4294967295 := by rw [crcV, crcP, ← hnl, List.take_length]
  obtain ⟨nb, hnb⟩ : ∃ nb, nB l = nb := ⟨_, rfl⟩
  simp only [hnb] at hb hgt hnl hend ⊢
  have HB := hidH hb
  have HA := hidH hA
  have HG := hidH hgt
  have HN := hidH hnl
  have HE := hidH hend
  clear hA hb hgt hnl hend hnb
  go_enter Tryd.func34, Tryd.ntmps34
  go_wp2
  go_loopw [3, 4] (fun n i wr => ∃ k m : Nat, k ≤ l.length ∧ i = .int .i64 k ∧ n = .int .i64 ((crcP nb k : Nat) : Int) ∧ wr = w.drewN m) (fun _ i _ => l.length - (intOf i).toNat)
  case atStart => exact ⟨0, 0, Nat.zero_le _, rfl, rfl, rfl⟩
  case round =>
    obtain ⟨k, m, hk, rfl, rfl, rfl⟩ := hrel
    have hP := crcP_lt HB.out k
    by_cases hlt : k < l.length
    · have hi0 : (0 : Int) ≤ (k : Int) := by omega
      have hi1 : (k : Int) < (l.length : Int) := by omega
      obtain ⟨b, off, rfl, _, hcc⟩ : ∃ b off, A = some ⟨b, off, none⟩ ∧ b < w.heap.size ∧ ∀ j, j < l.length → w.cell? ⟨b, off + j, none⟩ = some (.int .u8 (l.getD j 0)) := by
        rcases HA.out with h | h
        · rw [h] at hlt; simp at hlt
        · exact h
      have c1 : (w.drewN m).cell? ⟨b, off + k, none⟩ = some (.int .u8 (l.getD k 0)) := hcc k hlt
      have hx := hl.get k
      have hsuc := crcP_succ nb k (by rw [HN.out]; exact hlt)
      rw [HG.out k] at hsuc
      obtain ⟨x, hxe⟩ : ∃ x : Nat, l.getD k 0 = x := ⟨(l.getD k 0).toNat, by omega⟩
      rw [hxe] at c1 hx hsuc
      rw [Int.toNat_natCast] at hsuc
      have hx2 : x < 256 := by omega
      have HS := hidH hsuc
      obtain ⟨y, hy⟩ : ∃ y, crcP nb k = y := ⟨_, rfl⟩
      rw [hy] at hP HS ⊢
      have hxx := i64_xor_nat y x hP (by omega)
      obtain ⟨z, hz⟩ : ∃ z, y ^^^ x = z := ⟨_, rfl⟩
      have hz2 : z < 4294967296 := by rw [← hz]; exact crc_xor_lt hP hx2
      rw [hz] at hxx HS
      have hz3 : (z : Int) ≤ 4294967295 := by omega
      clear hcc hxe hsuc hy hz hP
      go_wp2
      go_loopw [3, 5] (fun n j wr => ∃ t : Nat, t ≤ 8 ∧ j = .int .i64 t ∧ n = .int .i64 ((crcBits z t : Nat) : Int) ∧ wr = w.drewN m) (fun _ j _ => 8 - (intOf j).toNat)
      case atStart => exact ⟨0, by omega, rfl, rfl, rfl⟩
      case round =>
        obtain ⟨t, ht, rfl, rfl, rfl⟩ := hrel
        have hq := crcBits_lt hz2 t
        have hstep : crcBits z (t + 1) = crcBit (crcBits z t) := rfl
        have HST := hidH hstep
        obtain ⟨q, hqe⟩ : ∃ q, crcBits z t = q := ⟨_, rfl⟩
        rw [hqe] at hq HST ⊢
        clear hstep
        have hq3 : (q : Int) ≤ 4294967295 := by omega
        by_cases h8 : t < 8
        · have ht0 : (0 : Int) ≤ (t : Int) := by omega
          have ht1 : (t : Int) < 8 := by omega
          clear hqe
          by_cases hodd : q % 2 = 1
          · have hI : (((q : Int) % 2) == 1) = true := by rw [beq_iff_eq]; omega
            have hv := hidH (show crcBit q = q / 2 ^^^ 2197175160 by rw [crcBit, if_pos hodd])
            have hxq := i64_xor_nat (q / 2) 2197175160 (by omega) (by omega)
            rw [show ((q / 2 : Nat) : Int) = (q : Int) / 2 from by simp, show ((2197175160 : Nat) : Int) = 2197175160 from rfl] at hxq
            clear hodd
            go_wp2
            go_roundw
            case rel => exact ⟨t + 1, by omega, by go_num, by rw [HST.out, hv.out], trivial⟩
            case measure => simp [intOf]; omega
          · have hI : (((q : Int) % 2) == 1) = false := by rw [beq_eq_false_iff_ne]; omega
            have hv := hidH (show crcBit q = q / 2 by rw [crcBit, if_neg hodd])
            clear hodd
            go_wp2
            go_roundw
            case rel => exact ⟨t + 1, by omega, by go_num, by rw [HST.out, hv.out]; simp, trivial⟩
            case measure => simp [intOf]; omega
        · obtain rfl : t = 8 := by omega
          rw [hqe] at HS
          clear hqe h8 ht
          rw [show ((8 : Nat) : Int) = 8 from rfl]
          go_wp2
          go_roundw
          case rel => exact ⟨k + 1, m, by omega, by go_num, by rw [HS.out], rfl⟩
          case measure => simp [intOf]; omega
    · obtain rfl : k = l.length := by omega
      have hxx := i64_xor_nat (crcP nb l.length) 4294967295 hP (by decide)
      rw [show ((4294967295 : Nat) : Int) = 4294967295 from rfl] at hxx
      have hlt2 : ¬ ((l.length : Int) < (l.length : Int)) := by omega
      go_wp2
      exact bodyPost_ret (v := .int .i64 ((crcP nb l.length ^^^ 4294967295 : Nat) : Int)) (by simp [results, Tryd.results34, go_sem]) rfl ⟨by rw [HE.out], _, rfl⟩
def crcC (l : List Int) : Int := if l.length ≤ 700 then 0 else 2
def crcN (l : List Int) : Int := if l.length ≤ 700 then ((crcV (nB l) : Nat) : Int) else 0
end Go.Proofs.YtepcikghhnfacaaDoor
