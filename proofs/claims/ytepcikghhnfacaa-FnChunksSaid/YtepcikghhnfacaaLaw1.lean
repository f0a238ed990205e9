/- What the laws of chapter 1 want besides: lwBig, and the chapter's answers where only old memory is spoken of. -/
import Derived.Test.YtepcikghhnfacaaDrawWords
import Derived.Deep.RegionHeld3
import Derived.Deep.DeepCutAuto
namespace Go.Proofs.Ytepcikghhnfacaa
open Go.RowKit Go.Deep
set_option maxHeartbeats 400000 in
theorem big_any (A : Option Addr) (n c : Nat) (w : World) : Calls Try.prog 10 #[.slice A n c] w fun e w' => e = .returned (.bool (decide ((1048576 : Int) < (n : Int)))) ∧ w = w' := by
  go_enter Try.func10, Try.ntmps10
  go_wp2
  go_ret
  exact ⟨rfl, rfl⟩
/-- An IntResult comes back; what was there has not turned. -/
def IB (w : World) (c v : Int) (e : Ending) (w' : World) : Prop := e = .returned (.agg #[.int .i64 c, .int .i64 v]) ∧ Below w.heap.size w w'
theorem IntRes.ib {w : World} {c v : Int} {e : Ending} {w' : World} (h : IntRes w c v e w') : IB w c v e w' := ⟨h.1, by rw [← h.2]; exact bal (Below.refl _ _) _⟩
/-- The fields of an IntResult, of a BytesResult, read out of the value. -/
theorem fldIC (c v : Int) (w : World) : (Instr.field 33 (.agg #[.int .i64 c, .int .i64 v]) 0).run Try.prog w = .ok (.int .i64 c) w := by kernel_rfl
theorem fldIV (c v : Int) (w : World) : (Instr.field 33 (.agg #[.int .i64 c, .int .i64 v]) 1).run Try.prog w = .ok (.int .i64 v) w := by kernel_rfl
/-- A block of two cells is there, and nothing below B has turned since w. -/
theorem two_keep {B : Nat} {w a b : World} {g : Nat} {x y : Value} (h : a.cell? ⟨g, 0, none⟩ = some x ∧ a.cell? ⟨g, 1, none⟩ = some y ∧ g < a.heap.size ∧ Below B w a ∧ B ≤ a.heap.size) (hb : Below a.heap.size a b) :
    b.cell? ⟨g, 0, none⟩ = some x ∧ b.cell? ⟨g, 1, none⟩ = some y ∧ g < b.heap.size ∧ Below B w b ∧ B ≤ b.heap.size :=
  ⟨(hb.cell (p := ⟨g, 0, none⟩) h.2.2.1).trans h.1, (hb.cell (p := ⟨g, 1, none⟩) h.2.2.1).trans h.2.1, Nat.lt_of_lt_of_le h.2.2.1 hb.size, h.2.2.2.1.trans (hb.mono h.2.2.2.2), Nat.le_trans h.2.2.2.2 hb.size⟩
theorem two_drew {B : Nat} {w a : World} {g : Nat} {x y : Value} (h : a.cell? ⟨g, 0, none⟩ = some x ∧ a.cell? ⟨g, 1, none⟩ = some y ∧ g < a.heap.size ∧ Below B w a ∧ B ≤ a.heap.size) :
    a.drew.cell? ⟨g, 0, none⟩ = some x ∧ a.drew.cell? ⟨g, 1, none⟩ = some y ∧ g < a.drew.heap.size ∧ Below B w a.drew ∧ B ≤ a.drew.heap.size :=
  ⟨h.1, h.2.1, h.2.2.1, h.2.2.2.1.drew, h.2.2.2.2⟩
theorem two_start {w a : World} (h : Below w.heap.size w a) (x y : Value) (t : TypeId) :
    (a.alloc (.cells #[x, y] t)).cell? ⟨a.heap.size, 0, none⟩ = some x ∧ (a.alloc (.cells #[x, y] t)).cell? ⟨a.heap.size, 1, none⟩ = some y ∧ a.heap.size < (a.alloc (.cells #[x, y] t)).heap.size ∧ Below w.heap.size w (a.alloc (.cells #[x, y] t)) ∧ w.heap.size ≤ (a.alloc (.cells #[x, y] t)).heap.size := by
  obtain ⟨h0, h1, h2⟩ := (Blk.new a t #[x, y]).two
  exact ⟨h0, h1, h2, bal h _, by have := h.size; simp; omega⟩
theorem gapV_yes {a b : Int} (h : IsW a ∧ IsW b) : gapV a b = (b - a) % 4294967296 := by rw [gapV, if_pos h]
theorem addV_yes {a b : Int} (h : IsW a ∧ IsW b) : addV a b = (a + b) % 4294967296 := by rw [addV, if_pos h]
theorem lessB_true {a b : Int} (h : IsW a ∧ IsW b) : lessB a b = true ↔ 1 ≤ (b - a) % 4294967296 ∧ (b - a) % 4294967296 ≤ 2147483647 := by
  rw [lessB, gapV_yes h]; simp [inB]
theorem lessB_false {a b : Int} (h : IsW a ∧ IsW b) : lessB a b = false ↔ ¬ (1 ≤ (b - a) % 4294967296 ∧ (b - a) % 4294967296 ≤ 2147483647) := by
  rw [← lessB_true h]; simp
/-- What is so of two serial numbers. -/
theorem serial_cases {a b : Int} (h : IsW a ∧ IsW b) :
    0 ≤ gapV a b ∧ gapV a b ≤ 4294967295 ∧ 0 ≤ gapV b a ∧ gapV b a ≤ 4294967295 ∧ ((gapV a b + gapV b a) % 4294967296 == 0) = true ∧ (addV a (gapV a b) == b) = true ∧ lessB (addV a 1) (addV b 1) = lessB a b ∧
    ((lessB a b = true ∧ lessB b a = false ∧ (a == b) = false ∧ (gapV a b == 2147483648) = false) ∨ (lessB a b = false ∧ lessB b a = true ∧ (a == b) = false ∧ (gapV a b == 2147483648) = false) ∨
     (lessB a b = false ∧ lessB b a = false ∧ (a == b) = true ∧ (gapV a b == 2147483648) = false) ∨ (lessB a b = false ∧ lessB b a = false ∧ (a == b) = false ∧ (gapV a b == 2147483648) = true)) := by
  have h' : IsW b ∧ IsW a := ⟨h.2, h.1⟩
  have one : IsW 1 := ⟨by omega, by omega⟩
  have ha1 : IsW a ∧ IsW 1 := ⟨h.1, one⟩
  have hb1 : IsW b ∧ IsW 1 := ⟨h.2, one⟩
  have hg : IsW ((b - a) % 4294967296) := by constructor <;> omega
  have hx : IsW ((a + 1) % 4294967296) := by constructor <;> omega
  have hy : IsW ((b + 1) % 4294967296) := by constructor <;> omega
  obtain ⟨⟨a0, a1⟩, b0, b1⟩ := id h
  rw [gapV_yes h, gapV_yes h', addV_yes ⟨h.1, hg⟩, addV_yes ha1, addV_yes hb1]
  refine ⟨by omega, by omega, by omega, by omega, ?_, ?_, ?_, ?_⟩
  · rw [beq_iff_eq]; omega
  · rw [beq_iff_eq]; omega
  · rw [Bool.eq_iff_iff, lessB_true ⟨hx, hy⟩, lessB_true h]; omega
  · rw [lessB_true h, lessB_false h, lessB_true h', lessB_false h', beq_iff_eq, beq_iff_eq, beq_eq_false_iff_ne, beq_eq_false_iff_ne]; omega
end Go.Proofs.Ytepcikghhnfacaa
