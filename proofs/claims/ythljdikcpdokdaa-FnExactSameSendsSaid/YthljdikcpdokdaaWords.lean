/- What the functions of chapter 1 (words and serial numbers) answer, the program's and the model's, call by call. No condition but those that each line bears. -/
import Derived.Test.YthljdikcpdokdaaProg
import Derived.WalkKit
import Derived.WalkSpells
import Derived.WalkLawsBesides
import Derived.Laws.Rows
namespace Go.Proofs.Ythljdikcpdokdaa
open Go.RowKit

theorem bal {a w : World} (h : Below a.heap.size a w) (o : Obj) : Below a.heap.size a (w.alloc o) := h.alloc h.size o
theorem btr {a b c : World} (h : Below a.heap.size a b) (k : Below b.heap.size b c) : Below a.heap.size a c := h.trans (k.mono h.size)
theorem bst {a w : World} (h : Below a.heap.size a w) {p : Addr} (hp : a.heap.size ≤ p.block) (u : Value) : Below a.heap.size a (w.setCell p u) := h.setCell hp u

theorem below_drewN {B : Nat} {a w : World} (h : Below B a w) (n : Nat) : Below B a (w.drewN n) := ⟨h.os, h.tape, h.output, h.size, h.block⟩
/-- Block g is just the cells cs of element type t, none frozen. -/
def Blk (w : World) (g : Nat) (t : TypeId) (cs : Array Value) : Prop := w.heap[g]? = some (.cells cs t (0, 0))
theorem Blk.lt {w : World} {g : Nat} {t : TypeId} {cs : Array Value} (h : Blk w g t cs) : g < w.heap.size := by
  rcases Nat.lt_or_ge g w.heap.size with hlt | hge
  · exact hlt
  · unfold Blk at h; rw [Array.getElem?_eq_none hge] at h; cases h
theorem Blk.cell {w : World} {g : Nat} {t : TypeId} {cs : Array Value} (h : Blk w g t cs) (i : Nat) : w.cell? ⟨g, i, none⟩ = cs[i]? := cell_of_row w g i cs t (0, 0) h
theorem Blk.frozen {w : World} {g : Nat} {t : TypeId} {cs : Array Value} (h : Blk w g t cs) (i : Nat) : w.frozen? ⟨g, i, none⟩ = false := by
  unfold Blk at h
  simp [World.frozen?, h]
theorem Blk.new (w : World) (t : TypeId) (cs : Array Value) : Blk (w.alloc (.cells cs t)) w.heap.size t cs := heap_alloc_new w _
theorem Blk.alloc {w : World} {g : Nat} {t : TypeId} {cs : Array Value} (h : Blk w g t cs) (o : Obj) : Blk (w.alloc o) g t cs := (Below.heap_alloc w o g h.lt).trans h
theorem Blk.below {w w' : World} {g : Nat} {t : TypeId} {cs : Array Value} (h : Blk w g t cs) (hb : Below w.heap.size w w') : Blk w' g t cs := (hb.block g h.lt).trans h
/-- What the walk wants of a block of two cells. -/
theorem Blk.two {w : World} {g : Nat} {t : TypeId} {a b : Value} (h : Blk w g t #[a, b]) : w.cell? ⟨g, 0, none⟩ = some a ∧ w.cell? ⟨g, 1, none⟩ = some b ∧ g < w.heap.size := ⟨h.cell 0, h.cell 1, h.lt⟩
theorem hidH {p : Prop} (h : p) : Hid p := h
theorem ret_int {k : IntKind} {a b : Int} (h : a = b) : Ending.returned (.int k a) = .returned (.int k b) := by rw [h]

/-- What a call that answers an IntResult leaves: the answer, and one new block with it. -/
def IntRes (w : World) (c v : Int) (e : Ending) (w' : World) : Prop :=
  e = .returned (.agg #[.int .i64 c, .int .i64 v]) ∧ w.alloc (.cells #[.int .i64 c, .int .i64 v] 38) = w'
def IsW (a : Int) : Prop := 0 ≤ a ∧ a ≤ 4294967295
instance (a : Int) : Decidable (IsW a) := by unfold IsW; infer_instance
def inB (v lo hi : Int) : Bool := decide (lo ≤ v) && decide (v ≤ hi)
def wB (a : Int) : Bool := inB a 0 4294967295
theorem inB_yes {v lo hi : Int} (h1 : lo ≤ v) (h2 : v ≤ hi) : inB v lo hi = true := by simp [inB, h1, h2]
theorem inB_lo {v lo hi : Int} (h1 : v < lo) : inB v lo hi = false := by
  have : ¬ lo ≤ v := by omega
  simp [inB, this]
theorem inB_hi {v lo hi : Int} (h1 : hi < v) : inB v lo hi = false := by
  have : ¬ v ≤ hi := by omega
  simp [inB, this]
theorem wB_yes {a : Int} (h : IsW a) : wB a = true := inB_yes h.1 h.2
theorem wB_no {a : Int} (h : ¬ IsW a) : wB a = false := by
  unfold IsW at h
  by_cases h1 : 0 ≤ a
  · exact inB_hi (by omega)
  · exact inB_lo (by omega)

def addC (a b : Int) : Int := if IsW a ∧ IsW b then 0 else 3
def addV (a b : Int) : Int := if IsW a ∧ IsW b then (a + b) % 4294967296 else 0
def gapV (a b : Int) : Int := if IsW a ∧ IsW b then (b - a) % 4294967296 else 0

set_option maxHeartbeats 400000 in
theorem isWord_any (a : Int) (w : World) : Calls Try.prog 61 #[.int .i64 a] w fun e w' => e = .returned (.bool (wB a)) ∧ w = w' := by
  by_cases h1 : 0 ≤ a
  · rw [show wB a = decide (a ≤ 4294967295) from by simp [wB, inB, h1]]
    go_enter Try.func61, Try.ntmps61
    go_wp2
    go_ret
    exact ⟨rfl, rfl⟩
  · have h : a < 0 := by omega
    rw [show wB a = false from inB_lo h]
    clear h1
    go_enter Try.func61, Try.ntmps61
    go_wp2
    go_ret
    exact ⟨rfl, rfl⟩
set_option maxHeartbeats 400000 in
theorem in_any (v lo hi : Int) (w : World) : Calls Try.prog 84 #[.int .i64 v, .int .i64 lo, .int .i64 hi] w fun e w' => e = .returned (.bool (inB v lo hi)) ∧ w = w' := by
  by_cases h1 : lo ≤ v
  · rw [show inB v lo hi = decide (v ≤ hi) from by simp [inB, h1]]
    go_enter Try.func84, Try.ntmps84
    go_wp2
    go_ret
    exact ⟨rfl, rfl⟩
  · have h : v < lo := by omega
    rw [show inB v lo hi = false from inB_lo h]
    clear h1
    go_enter Try.func84, Try.ntmps84
    go_wp2
    go_ret
    exact ⟨rfl, rfl⟩
set_option maxHeartbeats 400000 in
theorem word32_any (a : Int) (w : World) : Calls Try.prog 82 #[.int .i64 a] w fun e w' => e = .returned (.bool (wB a)) ∧ w = w' := by
  go_enter Try.func82, Try.ntmps82
  go_wp2_with (go_at_call 84; refine (in_any _ _ _ _).mono ?_; rintro e w' ⟨rfl, rfl⟩)
  go_ret
  exact ⟨rfl, rfl⟩
set_option maxHeartbeats 400000 in
theorem l1Add_any (a b : Int) (w : World) (h1 : 0 ≤ a) (h2 : a ≤ 4294967295) (h3 : 0 ≤ b) (h4 : b ≤ 4294967295) :
    Calls Try.prog 69 #[.int .i64 a, .int .i64 b] w fun e w' => e = .returned (.int .i64 ((a + b) % 4294967296)) ∧ w = w' := by
  go_enter Try.func69, Try.ntmps69
  go_wp2
  go_ret
  exact ⟨rfl, rfl⟩
set_option maxHeartbeats 400000 in
theorem l1Gap_any (a b : Int) (w : World) (h1 : 0 ≤ a) (h2 : a ≤ 4294967295) (h3 : 0 ≤ b) (h4 : b ≤ 4294967295) :
    Calls Try.prog 83 #[.int .i64 a, .int .i64 b] w fun e w' => e = .returned (.int .i64 ((b - a) % 4294967296)) ∧ w = w' := by
  have e : ((b - a) % 4294967296 : Int) = (b - a + 4294967296) % 4294967296 := by omega
  rw [e]
  clear e
  go_enter Try.func83, Try.ntmps83
  go_wp2
  go_ret
  exact ⟨rfl, rfl⟩
set_option maxHeartbeats 400000 in
theorem add_impl (a b : Int) (w : World) : Calls Try.prog 35 #[.int .i64 a, .int .i64 b] w (IntRes w (addC a b) (addV a b)) := by
  by_cases ha : IsW a
  · have va := wB_yes ha
    by_cases hb : IsW b
    · have vb := wB_yes hb
      rw [addC, addV, if_pos ⟨ha, hb⟩, if_pos ⟨ha, hb⟩]
      obtain ⟨h1, h2⟩ := ha
      obtain ⟨h3, h4⟩ := hb
      go_enter Try.func35, Try.ntmps35
      go_wp2_with (first | (go_at_call 61; refine (isWord_any _ _).mono ?_; rintro e w' ⟨rfl, rfl⟩))
      exact bodyPost_ret (v := .agg #[.int .i64 0, .int .i64 ((a + b) % 4294967296)]) (by simp [results, Try.results35, go_sem]) rfl ⟨rfl, rfl⟩
    · rw [addC, addV, if_neg (fun h => hb h.2), if_neg (fun h => hb h.2)]
      have vb := wB_no hb
      clear ha hb
      go_enter Try.func35, Try.ntmps35
      go_wp2_with (first | (go_at_call 61; refine (isWord_any _ _).mono ?_; rintro e w' ⟨rfl, rfl⟩))
      exact bodyPost_ret (v := .agg #[.int .i64 3, .int .i64 0]) (by simp [results, Try.results35, go_sem]) rfl ⟨rfl, rfl⟩
  · rw [addC, addV, if_neg (fun h => ha h.1), if_neg (fun h => ha h.1)]
    have va := wB_no ha
    clear ha
    go_enter Try.func35, Try.ntmps35
    go_wp2_with (first | (go_at_call 61; refine (isWord_any _ _).mono ?_; rintro e w' ⟨rfl, rfl⟩))
    exact bodyPost_ret (v := .agg #[.int .i64 3, .int .i64 0]) (by simp [results, Try.results35, go_sem]) rfl ⟨rfl, rfl⟩
set_option maxHeartbeats 400000 in
theorem gap_impl (a b : Int) (w : World) : Calls Try.prog 17 #[.int .i64 a, .int .i64 b] w (IntRes w (addC a b) (gapV a b)) := by
  by_cases ha : IsW a
  · have va := wB_yes ha
    by_cases hb : IsW b
    · have vb := wB_yes hb
      rw [addC, gapV, if_pos ⟨ha, hb⟩, if_pos ⟨ha, hb⟩]
      obtain ⟨h1, h2⟩ := ha
      obtain ⟨h3, h4⟩ := hb
      go_enter Try.func17, Try.ntmps17
      go_wp2_with (first | (go_at_call 61; refine (isWord_any _ _).mono ?_; rintro e w' ⟨rfl, rfl⟩))
      exact bodyPost_ret (v := .agg #[.int .i64 0, .int .i64 ((b - a) % 4294967296)]) (by simp [results, Try.results17, go_sem]) rfl ⟨rfl, rfl⟩
    · rw [addC, gapV, if_neg (fun h => hb h.2), if_neg (fun h => hb h.2)]
      have vb := wB_no hb
      clear ha hb
      go_enter Try.func17, Try.ntmps17
      go_wp2_with (first | (go_at_call 61; refine (isWord_any _ _).mono ?_; rintro e w' ⟨rfl, rfl⟩))
      exact bodyPost_ret (v := .agg #[.int .i64 3, .int .i64 0]) (by simp [results, Try.results17, go_sem]) rfl ⟨rfl, rfl⟩
  · rw [addC, gapV, if_neg (fun h => ha h.1), if_neg (fun h => ha h.1)]
    have va := wB_no ha
    clear ha
    go_enter Try.func17, Try.ntmps17
    go_wp2_with (first | (go_at_call 61; refine (isWord_any _ _).mono ?_; rintro e w' ⟨rfl, rfl⟩))
    exact bodyPost_ret (v := .agg #[.int .i64 3, .int .i64 0]) (by simp [results, Try.results17, go_sem]) rfl ⟨rfl, rfl⟩
end Go.Proofs.Ythljdikcpdokdaa
